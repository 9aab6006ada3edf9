/- Trials: some of a trial's tests, by the law. -/
import Derived.Test.YtkmacpkjobdffaaTpC
namespace Go.Proofs.Ytkmacpkjobdffaa
open Go.RowKit
namespace Ti
theorem lsTo_iff {n : Nat} {l : List Int} : ∀ m, lsTo n l m = true ↔ ∀ k, k < m → stepL n l k = true
  | 0 => by simp [lsTo]
  | m + 1 => by
    show (lsTo n l m && stepL n l m) = true ↔ _
    rw [Bool.and_eq_true, lsTo_iff m]
    constructor
    · rintro ⟨h1, h2⟩ k hk
      by_cases e : k = m
      · subst e; exact h2
      · exact h1 k (by omega)
    · exact fun h => ⟨fun k hk => h k (by omega), h m (by omega)⟩
theorem step_iff {n : Nat} {l : List Int} {k : Nat} (hk : k < l.length) : stepL n l k = true ↔ (0 ≤ l[k] ∧ l[k] ≤ (n : Int) - 1) ∧ (k = 0 ∨ (l[k - 1]?).getD 0 < l[k]) := by
  unfold stepL
  rw [List.getElem?_eq_getElem hk, Option.getD_some, Bool.and_eq_true, inB_true, Bool.or_eq_true, decide_eq_true_eq, decide_eq_true_eq]
/-- Numbers of tests, as the reference checks them. -/
theorem ls_good {n : Nat} {l : List Int} (h : lsTo n l l.length = true) : (∀ i ∈ l, 0 ≤ i ∧ i < (n : Int)) ∧ l.Pairwise fun x y => x < y := by
  rw [lsTo_iff] at h
  constructor
  · intro i hi
    obtain ⟨k, hk, rfl⟩ := List.getElem_of_mem hi
    have := ((step_iff hk).1 (h k hk)).1
    omega
  · rw [List.pairwise_iff_getElem]
    have key : ∀ d i (hi : i < l.length) (hj : i + d + 1 < l.length), l[i] < l[i + d + 1] := by
      intro d
      induction d with
      | zero =>
        intro i hi hj
        have := ((step_iff hj).1 (h _ hj)).2
        rcases this with e | e
        · omega
        · have e2 : i + 0 + 1 - 1 = i := by omega
          rw [e2, List.getElem?_eq_getElem hi] at e
          exact e
      | succ d ih =>
        intro i hi hj
        have h1 := ih i hi (by omega)
        have := ((step_iff hj).1 (h _ hj)).2
        rcases this with e | e
        · omega
        · have e2 : i + (d + 1) + 1 - 1 = i + d + 1 := by omega
          rw [e2, List.getElem?_eq_getElem (by omega)] at e
          have e' : l[i + d + 1] < l[i + (d + 1) + 1] := e
          omega
    intro i j hi hj hij
    have := key (j - i - 1) i hi (by omega)
    have e : i + (j - i - 1) + 1 = j := by omega
    simpa [e] using this
theorem ls_list {n s : Nat} (hs : s < 2 ^ n) : lsTo n (listTo s 6) (listTo s 6).length = true := by
  rw [lsTo_iff]
  intro k hk
  rw [step_iff hk]
  have hm := List.getElem_mem hk
  have h1 := listTo_lt hs _ hm
  obtain ⟨j, _, _, e⟩ := mem_listTo.1 hm
  refine ⟨by omega, ?_⟩
  rcases k with _ | k
  · exact .inl rfl
  · right
    have e2 : k + 1 - 1 = k := by omega
    rw [e2, List.getElem?_eq_getElem (by omega)]
    exact List.pairwise_iff_getElem.1 (listTo_asc s) k (k + 1) (by omega) hk (by omega)
/-- What is in each of the sets is in the first one. -/
theorem nd_sub {L : List Nat} (h : ∀ s ∈ L, s < 64) (hn : L ≠ []) : ∀ k, k ≤ L.length → (listTo (ndTo L k) 6).length ≤ (listTo (L.headD 0) 6).length ∧ ∀ i ∈ listTo (ndTo L k) 6, i ∈ listTo (L.headD 0) 6
  | 0, _ => ⟨Nat.le_refl _, fun i hi => hi⟩
  | k + 1, hk => by
    obtain ⟨h1, h2⟩ := nd_sub h hn k (by omega)
    have e : L[k]? = some L[k] := List.getElem?_eq_getElem (by omega)
    rw [ndTo_succ e]
    obtain ⟨h3, h4⟩ := nd_fin ⟨ndTo L k, ndTo_lt h hn k (by omega)⟩ ⟨L[k], h _ (List.getElem_mem (by omega))⟩
    exact ⟨Nat.le_trans h3 h1, fun i hi => h2 i (h4 i hi)⟩
end Ti
end Go.Proofs.Ytkmacpkjobdffaa
namespace Go.Proofs.Ytkmacpkjobdffaa
open Go.RowKit Go.Maps
namespace Ti
def lisT (t : Tri) (l : List Int) : Tri := { t with ts := l.map fun i => tstAt t.ts i.toNat }
end Ti
def SomePost (t : Ti.Tri) (l : List Int) (w : World) (e : Ending) (w' : World) : Prop := ∃ A' c', e = .returned (.agg (tiV (Ti.lisT t l) A' c')) ∧ Hid (Tsts w' w'.heap.size A' (Ti.lisT t l).ts) ∧ Below w.heap.size w w'
set_option maxRecDepth 100000 in
set_option maxHeartbeats 8000000 in
theorem some9_any (t : Ti.Tri) (A : Option Addr) (c : Nat) (AV : Option Addr) (cV : Nat) (l : List Int) (w : World) (hn : t.ts.length ≤ 1000000000) (hl : l.length ≤ 1000) (hx : l ≠ [] → Ints w w.heap.size (.slice AV l.length cV) l) (hg : Tsts w w.heap.size A t.ts) (hin : ∀ i ∈ l, 0 ≤ i ∧ i < (t.ts.length : Int)) :
    Calls Try.prog 23 #[.agg (tiV t A c), .slice AV l.length cV] w (SomePost t l w) := by
  have HX := Lib.hid hx
  have HG := Lib.hid hg
  have HIN := Lib.hid hin
  have HP : Hid (∀ W' AT cT xs, Below w.heap.size w W' → W'.ownsRow w.heap.size 31 2 (.slice AT l.length cT) l.length xs → (∀ k i, l[k]? = some i → ∃ A' c', xs[2 * k]? = some (.int .i64 (Ti.tstAt t.ts i.toNat).1) ∧ xs[2 * k + 1]? = some (.slice A' (Ti.tstAt t.ts i.toNat).2.length c') ∧ Wks w w.heap.size A' (Ti.tstAt t.ts i.toNat).2 ∧ (Ti.tstAt t.ts i.toNat).2.length ≤ 1000000000) →
      ∃ A' c', Ending.returned (.agg #[.int .i64 t.d.full, .int .i64 t.d.read, .int .i64 t.d.slip, .int .i64 t.d.skew, .int .i64 t.d.circ, .int .i64 t.d.glo, .int .i64 t.d.ghi, .int .i64 t.d.wr, .int .i64 t.gain, .slice AT l.length cT]) = .returned (.agg (tiV (Ti.lisT t l) A' c')) ∧ Hid (Tsts W' W'.heap.size A' (Ti.lisT t l).ts) ∧ Below w.heap.size w W') := fun W' AT cT xs hB hO hxs => by
    have hlen : (Ti.lisT t l).ts.length = l.length := List.length_map _
    refine ⟨AT, cT, by unfold tiV; rw [hlen]; rfl, fun hn => ?_, hB⟩
    rw [hlen] at hn
    rcases hO.2 with ⟨e, e2⟩ | ⟨g, cap, cur, e, a2, a3, a4⟩
    · injection e with e1 e3; omega
    · have e1 : AT = some ⟨g, 0, none⟩ := by injection e
      subst e1
      refine ⟨g, 0, rfl, (Array.getElem?_eq_some_iff.1 a3).1, fun k x hk => ?_⟩
      unfold Ti.lisT at hk
      dsimp only at hk
      rw [List.getElem?_map] at hk
      cases hi : l[k]? with
      | none => rw [hi] at hk; cases hk
      | some i =>
        rw [hi] at hk
        obtain rfl : Ti.tstAt t.ts i.toNat = x := by simpa using hk
        obtain ⟨A', c', h1, h2, h3, h4⟩ := hxs k i hi
        have c0 := hO.cells (g := g) rfl (2 * k) _ h1
        have c1 := hO.cells (g := g) rfl (2 * k + 1) _ h2
        have ad : ∀ n : Nat, (⟨g, 0, none⟩ : Addr).add n = ⟨g, 0 + n, none⟩ := fun n => addr_add g 0 n
        rw [ad] at c0 c1
        refine ⟨A', c', ?_, ?_, (h3.keep hB).wider hB.size, h4⟩
        · rw [Nat.mul_comm k 2]; exact c0
        · rw [Nat.mul_comm k 2]; exact c1
  unfold SomePost
  clear hx hg hin
  generalize hLT : Ti.lisT t l = LT at *
  clear hLT
  obtain ⟨d, gain, ts⟩ := t
  obtain ⟨full, read, slip, skew, circ, glo, ghi, wrn, dws⟩ := d
  unfold tiV at *
  dsimp only at *
  have hmo : Try.prog.follows .mixedOrders = true := by kernel_rfl
  go_enter Try.func23, Try.ntmps23
  go_wp2_with fail
  have bT := ((BoxS.new w 28 #[.int .i64 full, .int .i64 read, .int .i64 slip, .int .i64 skew, .int .i64 circ, .int .i64 glo, .int .i64 ghi, .int .i64 wrn, .int .i64 gain, .slice A ts.length c]).alloc (.cells #[.int .i64 0, .int .i64 0, .int .i64 0, .int .i64 0, .int .i64 0, .int .i64 0, .int .i64 0, .int .i64 0, .int .i64 0, .slice none 0 0] 28)).alloc (.cells #[.int .i64 full, .int .i64 read, .int .i64 slip, .int .i64 skew, .int .i64 circ, .int .i64 glo, .int .i64 ghi, .int .i64 wrn, .int .i64 gain, .slice none 0 0] 28)
  have bR := (BoxS.new (w.alloc (.cells #[.int .i64 full, .int .i64 read, .int .i64 slip, .int .i64 skew, .int .i64 circ, .int .i64 glo, .int .i64 ghi, .int .i64 wrn, .int .i64 gain, .slice A ts.length c] 28)) 28 #[.int .i64 0, .int .i64 0, .int .i64 0, .int .i64 0, .int .i64 0, .int .i64 0, .int .i64 0, .int .i64 0, .int .i64 0, .slice none 0 0]).alloc (.cells #[.int .i64 full, .int .i64 read, .int .i64 slip, .int .i64 skew, .int .i64 circ, .int .i64 glo, .int .i64 ghi, .int .i64 wrn, .int .i64 gain, .slice none 0 0] 28)
  have bO := BoxS.new ((w.alloc (.cells #[.int .i64 full, .int .i64 read, .int .i64 slip, .int .i64 skew, .int .i64 circ, .int .i64 glo, .int .i64 ghi, .int .i64 wrn, .int .i64 gain, .slice A ts.length c] 28)).alloc (.cells #[.int .i64 0, .int .i64 0, .int .i64 0, .int .i64 0, .int .i64 0, .int .i64 0, .int .i64 0, .int .i64 0, .int .i64 0, .slice none 0 0] 28)) 28 #[.int .i64 full, .int .i64 read, .int .i64 slip, .int .i64 skew, .int .i64 circ, .int .i64 glo, .int .i64 ghi, .int .i64 wrn, .int .i64 gain, .slice none 0 0]
  have hB1 : Below w.heap.size w (((w.alloc (.cells #[.int .i64 full, .int .i64 read, .int .i64 slip, .int .i64 skew, .int .i64 circ, .int .i64 glo, .int .i64 ghi, .int .i64 wrn, .int .i64 gain, .slice A ts.length c] 28)).alloc (.cells #[.int .i64 0, .int .i64 0, .int .i64 0, .int .i64 0, .int .i64 0, .int .i64 0, .int .i64 0, .int .i64 0, .int .i64 0, .slice none 0 0] 28)).alloc (.cells #[.int .i64 full, .int .i64 read, .int .i64 slip, .int .i64 skew, .int .i64 circ, .int .i64 glo, .int .i64 ghi, .int .i64 wrn, .int .i64 gain, .slice none 0 0] 28)) := by (repeat' (first | (with_reducible exact Below.refl _ _) | (with_reducible assumption) | (with_reducible refine Below.alloc ?_ ?_ _) | (with_reducible refine Below.drew ?_) | (with_reducible refine Below.setCell ?_ ?_ _) | go_size | (exact (by simp)) | omega))
  simp only [World.size_alloc] at bR bO
  generalize World.alloc (World.alloc (World.alloc w _) _) _ = w1 at *
  go_loopw [6] (fun x6 wr => ∃ (k : Nat) (AT : Option Addr) (cT : Nat) (xs : List Value), (k : Int) ≤ l.length ∧ x6 = .int .i64 (k : Int) ∧ Below w.heap.size w wr ∧ BoxS wr w.heap.size 28 #[.int .i64 full, .int .i64 read, .int .i64 slip, .int .i64 skew, .int .i64 circ, .int .i64 glo, .int .i64 ghi, .int .i64 wrn, .int .i64 gain, .slice A ts.length c] ∧ BoxS wr (w.heap.size + 1) 28 #[.int .i64 0, .int .i64 0, .int .i64 0, .int .i64 0, .int .i64 0, .int .i64 0, .int .i64 0, .int .i64 0, .int .i64 0, .slice none 0 0] ∧ BoxS wr (w.heap.size + 1 + 1) 28 #[.int .i64 full, .int .i64 read, .int .i64 slip, .int .i64 skew, .int .i64 circ, .int .i64 glo, .int .i64 ghi, .int .i64 wrn, .int .i64 gain, .slice AT k cT] ∧ Hid (wr.ownsRow (w.heap.size + 1 + 1) 31 2 (.slice AT k cT) k xs) ∧
    Hid (xs.length = 2 * k ∧ ∀ (q : Nat) (i : Int), q < k → l[q]? = some i → ∃ A' c', xs[2 * q]? = some (.int .i64 (Ti.tstAt ts i.toNat).1) ∧ xs[2 * q + 1]? = some (.slice A' (Ti.tstAt ts i.toNat).2.length c') ∧ Wks w w.heap.size A' (Ti.tstAt ts i.toNat).2 ∧ (Ti.tstAt ts i.toNat).2.length ≤ 1000000000)) (fun x6 _ => (l.length - intOf x6).toNat)
  case atStart => exact ⟨0, none, 0, [], by omega, rfl, hB1, bT, bR, bO, World.ownsRow_nil _ _ _ _, rfl, fun q i h => by omega⟩
  case round =>
    clear bT bR bO hB1
    obtain ⟨k, AT, cT, xs, hk, rfl, hB, bT, bR, bO, hO, hxs⟩ := hrel
    have hk0 := Int.natCast_nonneg k
    by_cases hlt : (k : Int) < l.length
    · have hkl : k < l.length := by omega
      have hw1 : IntKind.i64.wrap ((k : Int) + 1) = (k : Int) + 1 := IntWalk.i64_in _ (by omega)
      have hlne : l ≠ [] := by intro h; rw [h] at hkl; simp at hkl
      obtain ⟨bl, ol, rfl, hbl, hcl⟩ := ints_some (HX.out hlne) hlne
      clear hlne
      have hgk : l[k]? = some l[k] := List.getElem?_eq_getElem hkl
      obtain ⟨j, hj⟩ : ∃ j : Nat, l[k] = (j : Int) := ⟨l[k].toNat, by have := (HIN.out _ (List.getElem_mem hkl)).1; omega⟩
      have hjn : j < ts.length := by have := (HIN.out _ (List.getElem_mem hkl)).2; omega
      have hjn' : (j : Int) < (ts.length : Int) := by omega
      have hj0 := Int.natCast_nonneg j
      rw [hj] at hgk
      obtain ⟨bt, ot, rfl, hbt, hct⟩ := HG.out (by omega)
      obtain ⟨A', c', x0, x1, hwk, hwl⟩ := hct j _ (tst_at hjn)
      have c0 := (hB.cell (p := ⟨bl, ol + k, none⟩) hbl).trans (hcl k _ hgk)
      have y0 := (hB.cell (p := ⟨bt, _, none⟩) hbt).trans x0
      have y1 := (hB.cell (p := ⟨bt, _, none⟩) hbt).trans x1
      have hTJ : Ti.tstAt ts ((j : Int)).toNat = Ti.tstAt ts j := by rw [show ((j : Int)).toNat = j by omega]
      have HNEW : Hid (∃ A' c', some (Value.int .i64 (Ti.tstAt ts j).1) = some (.int .i64 (Ti.tstAt ts ((j : Int)).toNat).1) ∧ True) := ⟨A', c', by rw [hTJ], trivial⟩
      clear hct x0 x1 hcl HNEW
      have hTX : Hid ((Ti.tstAt ts ((j : Int)).toNat) = Ti.tstAt ts j) := hTJ
      clear hTJ
      generalize Ti.tstAt ts j = x at *
      obtain ⟨xa, xw⟩ := x
      dsimp only at *
      have hbz := hB.size
      have lO := bO.lt
      go_wp2_with fail
      have q0 : Below wr.heap.size wr.drew wr.drew := Below.refl _ _
      have hbl1 : bl < wr.heap.size := by omega
      have hbt1 : bt < wr.heap.size := by omega
      have KC : Hid (∀ V', Below wr.heap.size wr.drew V' → (V'.cell? ⟨bl, ol + k, none⟩ = some (.int .i64 (j : Int)) ∧ V'.cell? ⟨w.heap.size, 9, none⟩ = some (.slice (some ⟨bt, ot, none⟩) ts.length c))) := fun V' h =>
        have hk : ∀ (bb o : Nat) (u : Value), bb < wr.heap.size → wr.cell? ⟨bb, o, none⟩ = some u → V'.cell? ⟨bb, o, none⟩ = some u := fun bb o u h1 h2 => (h.cell (p := ⟨bb, o, none⟩) h1).trans h2
        ⟨hk _ _ _ hbl1 c0, hk _ _ _ bT.lt (bT.cell 9 rfl)⟩
      refine (wpIn_wide (n := 4)).1 ?_
      refine wpIn_mono (Q := noPanic _) ?_ noPanic_le
      refine wpIn_region_held (fun V' => Below wr.heap.size wr.drew V') 40 hmo ?_
      refine wpHeldIn_take (i := 0) (v := ?_) (plain_of (by kernel_rfl)) rfl (by kernel_rfl) (fun _ _ _ h => h) (yieldsSoIn_of (by kernel_rfl) ?_ (fun _ => rfl)) q0 ?_; rotate_left; focus (intro wq hw; clear hw; go_simp; try (with_reducible rfl))
      refine wpHeldIn_take (i := 1) (v := ?_) (plain_of (by kernel_rfl)) rfl (by kernel_rfl) (fun _ _ _ h => h) (yieldsSoIn_of (by kernel_rfl) ?_ (fun _ => rfl)) q0 ?_; rotate_left; focus (intro wq hw; clear hw; go_simp; try (with_reducible rfl))
      refine wpHeldIn_take (i := 2) (v := ?_) (plain_of (by kernel_rfl)) rfl (by kernel_rfl) (fun _ _ _ h => h) (yieldsSoIn_of (by kernel_rfl) ?_ (fun _ => rfl)) q0 ?_; rotate_left; focus (intro wq hw; clear hw; go_simp; try (with_reducible rfl))
      refine wpHeldIn_take (i := 3) (v := ?_) (plain_of (by kernel_rfl)) rfl (by kernel_rfl) (fun _ _ _ h => h) (yieldsSoIn_of (by kernel_rfl) ?_ (fun _ => rfl)) q0 ?_; rotate_left; focus (intro wq hw; have kq := KC.out wq hw; clear hw; go_simp; try (with_reducible rfl))
      refine wpHeldIn_take (i := 4) (v := ?_) (plain_of (by kernel_rfl)) rfl (by kernel_rfl) (fun _ _ _ h => h) (yieldsSoIn_of (by kernel_rfl) ?_ (fun _ => rfl)) q0 ?_; rotate_left; focus (intro wq hw; clear hw; go_simp; try (with_reducible rfl))
      refine wpHeldIn_take (i := 5) (v := ?_) (plain_of (by kernel_rfl)) rfl (by kernel_rfl) (fun _ _ _ h => h) (yieldsSoIn_of (by kernel_rfl) ?_ (fun _ => rfl)) q0 ?_; rotate_left; focus (intro wq hw; clear hw; go_simp; try (with_reducible rfl))
      refine wpHeldIn_take (i := 6) (v := ?_) (plain_of (by kernel_rfl)) rfl (by kernel_rfl) (fun _ _ _ h => h) (yieldsSoIn_of (by kernel_rfl) ?_ (fun _ => rfl)) q0 ?_; rotate_left; focus (intro wq hw; clear hw; go_simp; try (with_reducible rfl))
      refine wpHeldIn_take (i := 7) (v := ?_) (plain_of (by kernel_rfl)) rfl (by kernel_rfl) (fun _ _ _ h => h) (yieldsSoIn_of (by kernel_rfl) ?_ (fun _ => rfl)) q0 ?_; rotate_left; focus (intro wq hw; clear hw; go_simp; try (with_reducible rfl))
      refine wpHeldIn_take (i := 8) (v := ?_) (plain_of (by kernel_rfl)) rfl (by kernel_rfl) (fun _ _ _ h => h) (yieldsSoIn_of (by kernel_rfl) ?_ (fun _ => rfl)) q0 ?_; rotate_left; focus (intro wq hw; clear hw; go_simp; try (with_reducible rfl))
      refine wpHeldIn_take (i := 9) (v := ?_) (plain_of (by kernel_rfl)) rfl (by kernel_rfl) (fun _ _ _ h => h) (yieldsSoIn_of (by kernel_rfl) ?_ (fun _ => rfl)) q0 ?_; rotate_left; focus (intro wq hw; have kq := KC.out wq hw; clear hw; go_simp; try (with_reducible rfl))
      refine wpHeldIn_take (i := 10) (v := ?_) (plain_of (by kernel_rfl)) rfl (by kernel_rfl) (fun _ _ _ h => h) (yieldsSoIn_of (by kernel_rfl) ?_ (fun _ => rfl)) q0 ?_; rotate_left; focus (intro wq hw; clear hw; go_simp; try (with_reducible rfl))
      refine wpHeldIn_take (i := 11) (v := ?_) (plain_of (by kernel_rfl)) rfl (by kernel_rfl) (fun _ _ _ h => h) (yieldsSoIn_of (by kernel_rfl) ?_ (fun _ => rfl)) q0 ?_; rotate_left; focus (intro wq hw; have kq := KC.out wq hw; clear hw; go_simp; try (with_reducible rfl))
      refine wpHeldIn_take (i := 12) (v := ?_) (plain_of (by kernel_rfl)) rfl (by kernel_rfl) (fun _ _ _ h => h) (yieldsSoIn_of (by kernel_rfl) ?_ (fun _ => rfl)) q0 ?_; rotate_left; focus (intro wq hw; clear hw; go_simp; try (with_reducible rfl))
      refine wpHeldIn_take (i := 13) (v := ?_) (plain_of (by kernel_rfl)) rfl (by kernel_rfl) (fun _ _ _ h => h) (yieldsSoIn_of (by kernel_rfl) ?_ (fun _ => rfl)) q0 ?_; rotate_left; focus (intro wq hw; clear hw; go_simp; try (with_reducible rfl))
      refine wpHeldIn_take (i := 14) (v := ?_) (plain_of (by kernel_rfl)) rfl (by kernel_rfl) (fun _ _ _ h => h) (yieldsSoIn_of (by kernel_rfl) ?_ (fun _ => rfl)) q0 ?_; rotate_left; focus (intro wq hw; clear hw; go_simp; try (with_reducible rfl))
      refine wpHeldIn_done (by kernel_rfl) ?_ _
      go_simp
      refine noPanic_of ?_
      clear KC q0
      have hBd : Below w.heap.size w wr.drew := hB.drew
      have bTd := bT.drew
      have bRd := bR.drew
      have bOd := bO.drew
      have hOd := Lib.hid (owns_below hO.out ((Below.refl wr.heap.size wr).drew))
      have c0d : wr.drew.cell? ⟨bl, ol + k, none⟩ = some (.int .i64 (j : Int)) := c0
      have y0d : wr.drew.cell? ⟨bt, ot + j * 2, none⟩ = some (.int .i64 xa) := y0
      have y1d : wr.drew.cell? ⟨bt, ot + j * 2 + 1, none⟩ = some (.slice A' xw.length c') := y1
      clear c0 y0 y1 hB bT bR bO hO hbl1 hbt1 hbz lO
      generalize wr.drew = wz at *
      go_wp2_with fail
      have hbz := hBd.size
      have lO := bOd.lt
      have KC : Hid (∀ V', (Below (w.heap.size + 1 + 1) wz.drew V' ∧ BoxS V' (w.heap.size + 1 + 1) 28 #[.int .i64 full, .int .i64 read, .int .i64 slip, .int .i64 skew, .int .i64 circ, .int .i64 glo, .int .i64 ghi, .int .i64 wrn, .int .i64 gain, .slice AT k cT]) → (V'.cell? ⟨bl, ol + k, none⟩ = some (.int .i64 (j : Int)) ∧ V'.cell? ⟨w.heap.size, 9, none⟩ = some (.slice (some ⟨bt, ot, none⟩) ts.length c) ∧ V'.cell? ⟨w.heap.size + 1 + 1, 9, none⟩ = some (.slice AT k cT) ∧ V'.cell? ⟨bt, ot + j * 2, none⟩ = some (.int .i64 xa) ∧ V'.cell? ⟨bt, ot + j * 2 + 1, none⟩ = some (.slice A' xw.length c'))) := fun V' h =>
        have hk : ∀ (bb o : Nat) (u : Value), bb < w.heap.size + 1 + 1 → wz.cell? ⟨bb, o, none⟩ = some u → V'.cell? ⟨bb, o, none⟩ = some u := fun bb o u h1 h2 => (h.1.cell (p := ⟨bb, o, none⟩) h1).trans h2
        ⟨hk _ _ _ (by omega) c0d, hk _ _ _ (by omega) (bTd.cell 9 rfl), h.2.cell 9 rfl, hk _ _ _ (by omega) y0d, hk _ _ _ (by omega) y1d⟩
      have q0 : Below (w.heap.size + 1 + 1) wz.drew wz.drew ∧ BoxS wz.drew (w.heap.size + 1 + 1) 28 #[.int .i64 full, .int .i64 read, .int .i64 slip, .int .i64 skew, .int .i64 circ, .int .i64 glo, .int .i64 ghi, .int .i64 wrn, .int .i64 gain, .slice AT k cT] := ⟨Below.refl _ _, bOd.drew⟩
      refine (wpIn_wide (n := 4)).1 ?_
      refine wpIn_mono (Q := noPanic _) ?_ noPanic_le
      refine wpIn_region_held (fun V' => Below (w.heap.size + 1 + 1) wz.drew V' ∧ BoxS V' (w.heap.size + 1 + 1) 28 #[.int .i64 full, .int .i64 read, .int .i64 slip, .int .i64 skew, .int .i64 circ, .int .i64 glo, .int .i64 ghi, .int .i64 wrn, .int .i64 gain, .slice AT k cT]) 13 hmo ?_
      refine wpHeldIn_take (i := 0) (v := ?_) (plain_of (by kernel_rfl)) rfl (by kernel_rfl) (fun _ _ _ h => h) (yieldsSoIn_of (by kernel_rfl) ?_ (fun _ => rfl)) q0 ?_; rotate_left; focus (intro wq hw; clear hw; go_simp; try (with_reducible rfl))
      refine wpHeldIn_take (i := 1) (v := ?_) (plain_of (by kernel_rfl)) rfl (by kernel_rfl) (fun _ _ _ h => h) (yieldsSoIn_of (by kernel_rfl) ?_ (fun _ => rfl)) q0 ?_; rotate_left; focus (intro wq hw; have kq := KC.out wq hw; clear hw; go_simp; try (with_reducible rfl))
      refine wpHeldIn_take (i := 2) (v := ?_) (plain_of (by kernel_rfl)) rfl (by kernel_rfl) (fun _ _ _ h => h) (yieldsSoIn_of (by kernel_rfl) ?_ (fun _ => rfl)) q0 ?_; rotate_left; focus (intro wq hw; clear hw; go_simp; try (with_reducible rfl))
      refine wpHeldIn_take (i := 3) (v := ?_) (plain_of (by kernel_rfl)) rfl (by kernel_rfl) (fun _ _ _ h => h) (yieldsSoIn_of (by kernel_rfl) ?_ (fun _ => rfl)) q0 ?_; rotate_left; focus (intro wq hw; have kq := KC.out wq hw; clear hw; go_simp; try (with_reducible rfl))
      refine wpHeldIn_take (i := 4) (v := ?_) (plain_of (by kernel_rfl)) rfl (by kernel_rfl) (fun _ _ _ h => h) (yieldsSoIn_of (by kernel_rfl) ?_ (fun _ => rfl)) q0 ?_; rotate_left; focus (intro wq hw; clear hw; go_simp; try (with_reducible rfl))
      refine wpHeldIn_take (i := 5) (v := ?_) (plain_of (by kernel_rfl)) rfl (by kernel_rfl) (fun _ _ _ h => h) (yieldsSoIn_of (by kernel_rfl) ?_ (fun _ => rfl)) q0 ?_; rotate_left; focus (intro wq hw; clear hw; go_simp; try (with_reducible rfl))
      refine wpHeldIn_take (i := 6) (v := ?_) (plain_of (by kernel_rfl)) rfl (by kernel_rfl) (fun _ _ _ h => h) (yieldsSoIn_of (by kernel_rfl) ?_ (fun _ => rfl)) q0 ?_; rotate_left; focus (intro wq hw; clear hw; go_simp; try (with_reducible rfl))
      refine wpHeldIn_take (i := 7) (v := ?_) (plain_of (by kernel_rfl)) rfl (by kernel_rfl) (fun _ _ _ h => h) (yieldsSoIn_of (by kernel_rfl) ?_ (fun _ => rfl)) q0 ?_; rotate_left; focus (intro wq hw; have kq := KC.out wq hw; clear hw; go_simp; try (with_reducible rfl))
      refine wpHeldIn_take (i := 8) (v := ?_) (plain_of (by kernel_rfl)) rfl (by kernel_rfl) (fun _ _ _ h => h) (yieldsSoIn_of (by kernel_rfl) ?_ (fun _ => rfl)) q0 ?_; rotate_left; focus (intro wq hw; clear hw; go_simp; try (with_reducible rfl))
      refine wpHeldIn_take (i := 9) (v := ?_) (plain_of (by kernel_rfl)) rfl (by kernel_rfl) (fun _ _ _ h => h) (yieldsSoIn_of (by kernel_rfl) ?_ (fun _ => rfl)) q0 ?_; rotate_left; focus (intro wq hw; have kq := KC.out wq hw; clear hw; go_simp; try (with_reducible rfl))
      refine wpHeldIn_one (i := 10) (by kernel_rfl) (by kernel_rfl) rfl (by kernel_rfl) (fun K1 hK1 => ?_)
      go_simp
      have hd : wz.drew.heap.size = wz.heap.size := rfl
      have bX : BoxS ((wz.alloc (.cells #[.int .i64 xa, .slice A' xw.length c'] 31)).drew) wz.heap.size 31 #[.int .i64 xa, .slice A' xw.length c'] := (BoxS.new wz 31 #[.int .i64 xa, .slice A' xw.length c']).drew
      have q1 : Below (w.heap.size + 1 + 1) wz.drew ((wz.alloc (.cells #[.int .i64 xa, .slice A' xw.length c'] 31)).drew) := (show Below (w.heap.size + 1 + 1) wz.drew (wz.drew.alloc (.cells #[.int .i64 xa, .slice A' xw.length c'] 31)) from (Below.refl _ _).alloc (by rw [hd]; omega) _)
      have hb1 : Below wz.heap.size wz ((wz.alloc (.cells #[.int .i64 xa, .slice A' xw.length c'] 31)).drew) := ((Below.refl _ _).alloc (Nat.le_refl _) _).drew
      have bO1 := bOd.below hb1
      have bT1 := bTd.below hb1
      have bR1 := bRd.below hb1
      have hO1 := Lib.hid (owns_below hOd.out hb1)
      have hB1 := hBd.trans (hb1.mono (by omega))
      refine hK1 _ _ ⟨q1, bO1⟩ ?_
      obtain ⟨BX, hBX⟩ : ∃ B, B = wz.heap.size := ⟨_, rfl⟩
      rw [← hBX] at bX
      have hsz1 : w.heap.size + 1 + 1 ≤ ((wz.alloc (.cells #[.int .i64 xa, .slice A' xw.length c'] 31)).drew).heap.size := by have := hb1.size; omega
      refine wpHeldIn_one (i := 11) (by kernel_rfl) (by kernel_rfl) rfl (by kernel_rfl) (fun K2 hK2 => ?_)
      refine wpIn_appT (.tmp 31) (.tmp 40) rfl (w.heap.size + 1 + 1) (.slice AT k cT) k xs rfl hO1.out BX xa A' xw.length c' (by rw [hBX]; rfl) bX (by omega) hsz1 ?_
      intro A2 c2 w2 k1 k2 _
      have bO2 := bO1.kept k2 (row_ne_box hO1.out bO1 (by decide))
      have bT2 := bT1.kept k2 (row_ne_box hO1.out bT1 (by decide))
      have bR2 := bR1.kept k2 (row_ne_box hO1.out bR1 (by decide))
      have q2 := q1.grown k2 hsz1 (fun g hg => by have := (World.ownsRow.lt hO1.out g hg).1; omega)
      have hB2 := hB1.grown k2 (by omega) (fun g hg => by have := (World.ownsRow.lt hO1.out g hg).1; omega)
      have s2 := And.intro q2 bO2
      refine hK2 _ _ s2 ?_
      refine wpHeldIn_take (i := 12) (v := ?_) (plain_of (by kernel_rfl)) rfl (by kernel_rfl) (fun _ _ _ h => h) (yieldsSoIn_of (by kernel_rfl) ?_ (fun _ => rfl)) s2 ?_; rotate_left; focus (intro wq hw; clear hw; go_simp; try (with_reducible rfl))
      have fr := bO2.frozen 9
      have fc := bO2.cell 9 rfl
      refine wpHeldIn_last (by kernel_rfl) rfl (by kernel_rfl) (fun K4 hK4 => ?_)
      go_simp
      have bO3 := bO2.put9 9 (.slice A2 (k + 1) c2)
      have bT3 := bT2.away (B' := w.heap.size + 1 + 1) (by omega) 9 (.slice A2 (k + 1) c2)
      have bR3 := bR2.away (B' := w.heap.size + 1 + 1) (by omega) 9 (.slice A2 (k + 1) c2)
      have hB3 : Below w.heap.size w (w2.setCell ⟨w.heap.size + 1 + 1, 9, none⟩ (.slice A2 (k + 1) c2)) := hB2.setCell (by simp; omega) _
      have hO3 := Lib.hid (ownsRow_lit (w' := w2.setCell ⟨w.heap.size + 1 + 1, 9, none⟩ (.slice A2 (k + 1) c2)) k1 (fun g hg => Below.heap_setCell _ _ _ g (fun e => row_ne_box k1 bO2 (by decide) (by rw [hg]; exact congrArg some e.symm))))
      refine hK4 _ _ ?_
      clear bO2 bT2 bR2 hB2 k1 k2 q2 s2 fr fc bO1 bT1 bR1 hO1 hB1 bX q1 hb1 KC q0
      generalize World.setCell w2 _ _ = w3 at *
      refine wpHeldIn_done (by kernel_rfl) ?_ _
      go_simp
      refine noPanic_of ?_
      go_wp2_with fail
      go_roundw
      case rel =>
        refine ⟨k + 1, A2, c2, _, by omega, by go_num, hB3, bT3, bR3, bO3, hO3, by rw [List.length_append, hxs.out.1]; rfl, fun q i hq hi => ?_⟩
        have hx1 := hxs.out.1
        by_cases e : q = k
        · subst e
          rw [hgk] at hi
          have hi' : (j : Int) = i := by injection hi
          subst hi'
          refine ⟨A', c', ?_, ?_, by rw [hTX.out]; exact hwk, by rw [hTX.out]; exact hwl⟩
          · rw [List.getElem?_append_right (by omega), hx1, hTX.out]; simp
          · rw [List.getElem?_append_right (by omega), hx1, hTX.out]; simp
        · obtain ⟨A1, c1, h1, h2, h3, h4⟩ := hxs.out.2 q i (by omega) hi
          exact ⟨A1, c1, by rw [List.getElem?_append_left (by omega)]; exact h1, by rw [List.getElem?_append_left (by omega)]; exact h2, h3, h4⟩
      case measure => simp [intOf]; omega
    · have ek : k = l.length := by omega
      subst ek
      have j0 := bO.cell 0 rfl
      have z0 := bR.cell 0 rfl
      have f0 := bR.frozen 0
      have j1 := bO.cell 1 rfl
      have z1 := bR.cell 1 rfl
      have f1 := bR.frozen 1
      have j2 := bO.cell 2 rfl
      have z2 := bR.cell 2 rfl
      have f2 := bR.frozen 2
      have j3 := bO.cell 3 rfl
      have z3 := bR.cell 3 rfl
      have f3 := bR.frozen 3
      have j4 := bO.cell 4 rfl
      have z4 := bR.cell 4 rfl
      have f4 := bR.frozen 4
      have j5 := bO.cell 5 rfl
      have z5 := bR.cell 5 rfl
      have f5 := bR.frozen 5
      have j6 := bO.cell 6 rfl
      have z6 := bR.cell 6 rfl
      have f6 := bR.frozen 6
      have j7 := bO.cell 7 rfl
      have z7 := bR.cell 7 rfl
      have f7 := bR.frozen 7
      have j8 := bO.cell 8 rfl
      have z8 := bR.cell 8 rfl
      have f8 := bR.frozen 8
      have j9 := bO.cell 9 rfl
      have z9 := bR.cell 9 rfl
      have f9 := bR.frozen 9
      have lT := bT.lt
      have lR := bR.lt
      have lO := bO.lt
      go_wp2_with fail
      have bR2 := ten_put bR (.int .i64 full) (.int .i64 read) (.int .i64 slip) (.int .i64 skew) (.int .i64 circ) (.int .i64 glo) (.int .i64 ghi) (.int .i64 wrn) (.int .i64 gain) (.slice AT l.length cT)
      have hB2 := ten_below (B := w.heap.size + 1) hB (by omega) (.int .i64 full) (.int .i64 read) (.int .i64 slip) (.int .i64 skew) (.int .i64 circ) (.int .i64 glo) (.int .i64 ghi) (.int .i64 wrn) (.int .i64 gain) (.slice AT l.length cT)
      have hO2 := hO.out
      have hO3 : World.ownsRow _ (w.heap.size + 1 + 1) 31 2 (.slice AT l.length cT) l.length xs := ownsRow_lit (w' := ((((((((((wr.setCell ⟨w.heap.size + 1, 0, none⟩ (.int .i64 full)).setCell ⟨w.heap.size + 1, 1, none⟩ (.int .i64 read)).setCell ⟨w.heap.size + 1, 2, none⟩ (.int .i64 slip)).setCell ⟨w.heap.size + 1, 3, none⟩ (.int .i64 skew)).setCell ⟨w.heap.size + 1, 4, none⟩ (.int .i64 circ)).setCell ⟨w.heap.size + 1, 5, none⟩ (.int .i64 glo)).setCell ⟨w.heap.size + 1, 6, none⟩ (.int .i64 ghi)).setCell ⟨w.heap.size + 1, 7, none⟩ (.int .i64 wrn)).setCell ⟨w.heap.size + 1, 8, none⟩ (.int .i64 gain)).setCell ⟨w.heap.size + 1, 9, none⟩ (.slice AT l.length cT))) hO2 (fun g hg => by
        have hge : g ≠ w.heap.size + 1 := by have := (World.ownsRow.lt hO2 g hg).1; omega
        have oth : ∀ (X : World) (i : Nat) (u : Value), (X.setCell ⟨w.heap.size + 1, i, none⟩ u).heap[g]? = X.heap[g]? := fun X i u => Below.heap_setCell _ _ _ g hge
        rw [oth, oth, oth, oth, oth, oth, oth, oth, oth, oth])
      clear z0 f0 j0 z1 f1 j1 z2 f2 j2 z3 f3 j3 z4 f4 j4 z5 f5 j5 z6 f6 j6 z7 f7 j7 z8 f8 j8 z9 f9 j9 bR hO2 hO
      generalize World.setCell (World.setCell (World.setCell (World.setCell (World.setCell (World.setCell (World.setCell (World.setCell (World.setCell (World.setCell wr _ _) _ _) _ _) _ _) _ _) _ _) _ _) _ _) _ _) _ _ = w9 at *
      have z0 := bR2.cell 0 rfl
      have z1 := bR2.cell 1 rfl
      have z2 := bR2.cell 2 rfl
      have z3 := bR2.cell 3 rfl
      have z4 := bR2.cell 4 rfl
      have z5 := bR2.cell 5 rfl
      have z6 := bR2.cell 6 rfl
      have z7 := bR2.cell 7 rfl
      have z8 := bR2.cell 8 rfl
      have z9 := bR2.cell 9 rfl
      obtain ⟨A1, c1, r1, r2, r3⟩ := HP.out w9 AT cT xs hB2 (ownsRow_wider hO3 (by omega)) (fun q i hi => hxs.out.2 q i (List.getElem?_eq_some_iff.1 hi).1 hi)
      exact bodyPost_ret (v := .agg #[.int .i64 full, .int .i64 read, .int .i64 slip, .int .i64 skew, .int .i64 circ, .int .i64 glo, .int .i64 ghi, .int .i64 wrn, .int .i64 gain, .slice AT l.length cT]) (by simp [results, Try.results23, go_sem, z0, z1, z2, z3, z4, z5, z6, z7, z8, z9]) rfl ⟨A1, ⟨c1, r1⟩, r2, r3⟩
end Go.Proofs.Ytkmacpkjobdffaa
