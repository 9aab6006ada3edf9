/- Trials: the areas that can be seen as a number. -/
import Derived.Test.YtkmacpkjobdffaaGreatTiP
namespace Go.Proofs.YtkmacpkjobdffaaGreat
open Go.RowKit Go.Maps
namespace Ti
theorem any_take_no {P : Int → Bool} {L : List Int} {k : Nat} {z : Int} (hz : L[k]? = some z) (h : (L.take k).any P = false) (hp : P z = false) : (L.take (k + 1)).any P = false := by
  rw [List.take_add_one, List.any_append, h, hz]
  simp [hp]
theorem any_yes {P : Int → Bool} {L : List Int} {k : Nat} {z : Int} (hz : L[k]? = some z) (hp : P z = true) : L.any P = true := List.any_eq_true.2 ⟨z, List.mem_of_getElem? hz, hp⟩
end Ti
set_option maxRecDepth 100000 in
set_option maxHeartbeats 4000000 in
theorem indexFunc_any (g : FuncId) (c1 c2 : Value) (P : Int → Bool) (HE : ∀ args W, (callFunc g args).run Tryz.prog W = .ok (.enter g args) W) (L : List Int) (A : Option Addr) (c : Nat) (w : World) (hl : L.length ≤ 1000000000) (hI : Ints w w.heap.size (.slice A L.length c) L)
    (HO : Hid (∀ (z : Int) W, z ∈ L → Below w.heap.size w W → Calls Tryz.prog g #[.int .i64 z, c1, c2] W fun e w' => e = .returned (.bool (P z)) ∧ Below W.heap.size W w')) :
    Calls Tryz.prog 100 #[.slice A L.length c, .func (.func g) #[] #[c1, c2]] w fun e w' => (∃ n : Int, e = .returned (.int .i64 n) ∧ decide (0 ≤ n) = L.any P) ∧ Below w.heap.size w w' := by
  have HI := Lib.hid hI
  clear hI
  go_enter Tryz.func100, Tryz.ntmps100
  go_wp2_with fail
  go_loopw [5, 8] (fun x5 x8 wr => ∃ k : Nat, (k : Int) ≤ L.length ∧ x8 = .int .i64 (k : Int) ∧ Below w.heap.size w wr ∧ Hid ((L.take k).any P = false)) (fun _ x8 _ => (L.length - intOf x8).toNat)
  case atStart => exact ⟨0, by omega, rfl, Below.refl _ _, by simp [Hid]⟩
  case round =>
    obtain ⟨k, hk, rfl, hB, hN⟩ := hrel
    have hk0 := Int.natCast_nonneg k
    by_cases hlt : (k : Int) < L.length
    · have hkn : k < L.length := by omega
      have hgk : L[k]? = some L[k] := List.getElem?_eq_getElem hkn
      obtain ⟨b, off, hA, hb, hc⟩ : ∃ b off, A = some ⟨b, off, none⟩ ∧ b < w.heap.size ∧ ∀ (k : Nat) (x : Int), L[k]? = some x → w.cell? ⟨b, off + k, none⟩ = some (.int .i64 x) := by
        rcases HI.out with ⟨e, e2⟩ | ⟨b, off, cap, e, h1, h2⟩
        · rw [e2] at hkn; simp at hkn
        · injection e with e1 e2 e3; exact ⟨b, off, e1, h1, h2⟩
      subst hA
      have y0 := (hB.cell (p := ⟨b, _, none⟩) hb).trans (hc _ _ hgk)
      have HOk := Lib.hid (fun W (h : Below wr.heap.size wr W) => HO.out L[k] W (List.mem_of_getElem? hgk) (hB.trans (h.mono hB.size)))
      have hbr : b < wr.heap.size := by have := hB.size; omega
      have hw1 : IntKind.i64.wrap ((k : Int) + 1) = (k : Int) + 1 := IntWalk.i64_in _ (by omega)
      have hy := fun h => Lib.hid (Ti.any_yes (P := P) hgk h)
      have hn := fun h => Lib.hid (Ti.any_take_no (P := P) hgk hN.out h)
      clear hc hgk
      generalize L[k] = z at *
      cases hp : P z
      · have hn1 := hn hp
        rw [hp] at HOk
        clear hn hy hp hN
        go_wp2_with fail
        refine (HOk.out _ (Below.refl _ _)).mono ?_
        rintro e w2 ⟨rfl, hb2⟩
        have hB2 := hB.trans (hb2.mono hB.size)
        clear y0
        go_wp2_with fail
        go_roundw
        case rel => exact ⟨k + 1, by omega, by go_num, hB2, hn1⟩
        case measure => simp [intOf]; omega
      · have hy1 := hy hp
        rw [hp] at HOk
        clear hn hy hp hN
        go_wp2_with fail
        refine (HOk.out _ (Below.refl _ _)).mono ?_
        rintro e w2 ⟨rfl, hb2⟩
        have hB2 := hB.trans (hb2.mono hB.size)
        clear y0
        go_wp2_with fail
        go_returns
        exact ⟨⟨k, rfl, by rw [hy1.out]; exact decide_eq_true hk0⟩, hB2⟩
    · have hN1 : Hid (L.any P = false) := by
        have h := hN.out
        rwa [List.take_of_length_le (by omega)] at h
      go_wp2_with fail
      go_returns
      exact ⟨⟨-1, rfl, by rw [hN1.out]; rfl⟩, hB⟩
set_option maxHeartbeats 4000000 in
theorem containsFunc_any (g : FuncId) (c1 c2 : Value) (P : Int → Bool) (HE : ∀ args W, (callFunc g args).run Tryz.prog W = .ok (.enter g args) W) (L : List Int) (A : Option Addr) (c : Nat) (w : World) (hl : L.length ≤ 1000000000) (hI : Ints w w.heap.size (.slice A L.length c) L)
    (HO : Hid (∀ (z : Int) W, z ∈ L → Below w.heap.size w W → Calls Tryz.prog g #[.int .i64 z, c1, c2] W fun e w' => e = .returned (.bool (P z)) ∧ Below W.heap.size W w')) :
    Calls Tryz.prog 71 #[.slice A L.length c, .func (.func g) #[] #[c1, c2]] w fun e w' => e = .returned (.bool (L.any P)) ∧ Below w.heap.size w w' := by
  have H := Lib.hid (indexFunc_any g c1 c2 P HE L A c w hl hI HO)
  clear hI HO
  go_enter Tryz.func71, Tryz.ntmps71
  go_wp2_with fail
  refine H.out.mono ?_
  rintro e w2 ⟨⟨n, rfl, hn⟩, hb2⟩
  have hn := Lib.hid hn
  cases hd : decide (0 ≤ n)
  · go_wp2_with fail
    go_returns
    exact ⟨by rw [← hn.out, hd]; rfl, hb2⟩
  · go_wp2_with fail
    go_returns
    exact ⟨by rw [← hn.out, hd]; rfl, hb2⟩
end Go.Proofs.YtkmacpkjobdffaaGreat
namespace Go.Proofs.YtkmacpkjobdffaaGreat
open Go.RowKit Go.Shelf Go.Maps Go.Sort
namespace Ti
/-- A map's keys are numbers. -/
def IntK (D : DataW Empty) : Prop := ∃ es, D = .map es ∧ ∀ p ∈ es, ∃ x, p.1 = .int .i64 x
theorem intK_put {D : DataW Empty} (h : IntK D) (x : Int) (d : DataW Empty) : IntK (D.put (.int .i64 x) d) := by
  obtain ⟨es, rfl, hp⟩ := h
  refine ⟨_, rfl, fun p hp' => ?_⟩
  have := (WideShapes.insert_perm (Lit.int .i64 x, d) _).mem_iff.1 hp'
  rcases List.mem_cons.1 this with rfl | hm
  · exact ⟨x, rfl⟩
  · exact hp p (List.mem_filter.1 hm).1
theorem intK_map (f0 : Gk → Int) (L : List GkS) : IntK (mapT (H := Empty) f0 L) := by
  have key : ∀ (L : List GkS) (D : DataW Empty), IntK D → IntK (L.foldl (fun D x => D.put (.int .i64 (f0 x.1)) (.lit (.bool true))) D) := by
    intro L
    induction L with
    | nil => exact fun D h => h
    | cons x l ih => exact fun D h => ih _ (intK_put h _ _)
  exact key L _ ⟨[], rfl, fun p hp => by cases hp⟩
theorem mapT_set (f0 : Gk → Int) (L : List GkS) : mapT (H := Empty) f0 L = setOf (.lit (.bool true)) (L.map fun x => .int .i64 (f0 x.1)) := by
  unfold mapT setOf
  rw [List.foldl_map]
theorem lits (f0 : Gk → Int) (L : List GkS) : ∀ x ∈ (L.map fun x => Lit.int .i64 (f0 x.1)), WideAt.IsKeyLit x := by
  intro x hx
  rw [List.mem_map] at hx
  obtain ⟨f, _, rfl⟩ := hx
  trivial
/-- The sorted keys are the strictly ascending list of the same members. -/
theorem all_eq (f0 : Gk → Int) (L : List GkS) {R : List Int} (hR : R.Pairwise (fun a b => a < b)) (hm : ∀ x, x ∈ R ↔ ∃ f ∈ L, f0 f.1 = x) : allT f0 L = R := by
  have ht : Tidy (mapT (H := Empty) f0 L) := by rw [mapT_set]; exact tidy_setOf _ _ (lits f0 L)
  obtain ⟨es, he, hk⟩ := intK_map f0 L
  obtain ⟨es2, he2, hp⟩ := ht
  have hes : es2 = es := by rw [he] at he2; injection he2 with h; exact h.symm
  subst hes
  have hnd : R.Nodup := hR.imp (fun h => by omega)
  have hhas : ∀ x, x ∈ R ↔ has (.map es2) (.int .i64 x) = true := by
    intro x
    rw [hm x, ← he, mapT_set]
    unfold setOf
    rw [has_fold _ _ _ _ ⟨[], rfl⟩ (lits f0 L)]
    have h0 : has (DataW.map ([] : List (Lit × DataW Empty))) (.int .i64 x) = false := rfl
    rw [h0, Bool.false_or, List.any_map, List.any_eq_true]
    constructor
    · rintro ⟨f, hf, rfl⟩
      exact ⟨f, hf, by simp [Lit.sameKey]⟩
    · rintro ⟨f, hf, h⟩
      exact ⟨f, hf, by simpa [Lit.sameKey] using h⟩
  have hperm := perm_intKeys hp hk hnd hhas
  have h1 := mergeSort_of_perm_i hperm
  rw [List.mergeSort_of_pairwise (hR.imp (fun h => by simp only [leI, decide_eq_true_eq]; omega))] at h1
  unfold allT
  rw [he]
  exact h1.symm

theorem asc101 : ((List.range 101).map fun i : Nat => (i : Int) - 50).Pairwise (fun a b => a < b) := by
  rw [List.pairwise_map]
  exact List.pairwise_lt_range.imp (fun h => by omega)
/-- All gains, ascending. -/
def gainF (L : List GkS) : List Int := ((List.range 101).map fun i : Nat => (i : Int) - 50).filter (fun s => decide (∃ f ∈ L, f.1.1 = s))
def skewF (L : List GkS) : List Int := ((List.range 41).map fun i : Nat => (i : Int) - 20).filter (fun s => decide (∃ f ∈ L, f.1.2 = s))
theorem gains_eq (L : List GkS) : allT (fun x => x.1) L = gainF L := by
  refine all_eq _ _ (asc101.filter _) fun x => ?_
  unfold gainF
  rw [List.mem_filter, decide_eq_true_eq]
  constructor
  · exact fun h => h.2
  · rintro ⟨f, hf, rfl⟩
    refine ⟨?_, f, hf, rfl⟩
    have := f.2
    unfold gsm at this
    rw [List.mem_map]
    exact ⟨(f.1.1 + 50).toNat, List.mem_range.2 (by omega), by omega⟩
theorem tskews_eq (L : List GkS) : allT (fun x => x.2) L = skewF L := by
  refine all_eq _ _ (asc41.filter _) fun x => ?_
  unfold skewF
  rw [List.mem_filter, decide_eq_true_eq]
  constructor
  · exact fun h => h.2
  · rintro ⟨f, hf, rfl⟩
    refine ⟨?_, f, hf, rfl⟩
    have := f.2
    unfold gsm at this
    rw [List.mem_map]
    exact ⟨(f.1.2 + 20).toNat, List.mem_range.2 (by omega), by omega⟩
theorem gains_bd {L : List GkS} {g : Int} (h : g ∈ allT (fun x => x.1) L) : -50 ≤ g ∧ g ≤ 50 := by
  rw [gains_eq] at h
  unfold gainF at h
  rw [List.mem_filter, List.mem_map] at h
  obtain ⟨⟨i, hi, rfl⟩, -⟩ := h
  rw [List.mem_range] at hi
  omega
theorem gains_len (L : List GkS) : (allT (fun x => x.1) L).length ≤ 101 := by
  rw [gains_eq]
  unfold gainF
  exact Nat.le_trans (List.length_filter_le _ _) (by simp)
end Ti
set_option maxHeartbeats 1000000 in
theorem Real1_any (x : Ti.GkS) (w : World) : Calls Tryz.prog 70 #[.agg #[.int .i64 x.1.1, .int .i64 x.1.2]] w fun e w' => e = .returned (.int .i64 x.1.1) ∧ Below w.heap.size w w' := by
  generalize x.1.1 = a at *
  generalize x.1.2 = b at *
  go_enter Tryz.func70, Tryz.ntmps70
  go_wp2_with fail
  go_returns
  exact ⟨rfl, by (repeat' (first | (with_reducible exact Below.refl _ _) | (with_reducible assumption) | (with_reducible refine Below.alloc ?_ ?_ _) | (with_reducible refine Below.drew ?_) | (with_reducible refine Below.setCell ?_ ?_ _) | go_size | (exact (by simp)) | omega))⟩
set_option maxRecDepth 100000 in
set_option maxHeartbeats 4000000 in
theorem Real2_any (z a s : Int) (hz : -50 ≤ z ∧ z ≤ 50) (ha : 0 ≤ a ∧ a ≤ 9000) (BA BS : Nat) (w : World) (hA : w.cell? ⟨BA, 0, none⟩ = some (.int .i64 a)) (hS : w.cell? ⟨BS, 0, none⟩ = some (.int .i64 s)) (lA : BA < w.heap.size) (lS : BS < w.heap.size) :
    Calls Tryz.prog 72 #[.int .i64 z, .pointer (some ⟨BA, 0, none⟩), .pointer (some ⟨BS, 0, none⟩)] w fun e w' => e = .returned (.bool (Ti.seenV z a == s)) ∧ Below w.heap.size w w' := by
  have HSE : Hid (∀ W, Calls Tryz.prog 69 #[.agg #[.int .i64 z, .int .i64 0], .int .i64 a] W fun e w' => e = .returned (.int .i64 (Ti.seenV z a)) ∧ Below W.heap.size W w') := fun W => seen_any (z, 0) a hz ha W
  generalize Ti.seenV z a = v at *
  have hmo : Tryz.prog.follows .mixedOrders = true := by kernel_rfl
  have KC : Hid (∀ W', Below w.heap.size w W' → W'.cell? ⟨BA, 0, none⟩ = some (.int .i64 a) ∧ W'.cell? ⟨BS, 0, none⟩ = some (.int .i64 s)) := fun W' h => ⟨(h.cell (p := ⟨BA, 0, none⟩) lA).trans hA, (h.cell (p := ⟨BS, 0, none⟩) lS).trans hS⟩
  have q0 : Below w.heap.size w w.drew := (Below.refl _ _).drew
  clear hA hS
  go_enter Tryz.func72, Tryz.ntmps72
  try go_wp2_with fail
  refine (wpIn_wide (n := 4)).1 ?_
  refine wpIn_region_held (fun W' => Below w.heap.size w W') 30 hmo ?_
  refine wpHeldIn_take (i := 0) (v := ?_) (plain_of (by kernel_rfl)) rfl (by kernel_rfl) (fun _ _ _ h => h) (yieldsSoIn_of (by kernel_rfl) ?_ (fun _ => rfl)) q0 ?_; rotate_left; focus (intro wq hw; clear hw; go_simp; try (with_reducible rfl))
  refine wpHeldIn_take (i := 1) (v := ?_) (plain_of (by kernel_rfl)) rfl (by kernel_rfl) (fun _ _ _ h => h) (yieldsSoIn_of (by kernel_rfl) ?_ (fun _ => rfl)) q0 ?_; rotate_left; focus (intro wq hw; clear hw; go_simp; try (with_reducible rfl))
  refine wpHeldIn_take (i := 2) (v := ?_) (plain_of (by kernel_rfl)) rfl (by kernel_rfl) (fun _ _ _ h => h) (yieldsSoIn_of (by kernel_rfl) ?_ (fun _ => rfl)) q0 ?_; rotate_left; focus (intro wq hw; have kq := KC.out wq hw; clear hw; go_simp; try (with_reducible rfl))
  refine wpHeldIn_take (i := 4) (v := ?_) (plain_of (by kernel_rfl)) rfl (by kernel_rfl) (fun _ _ _ h => h) (yieldsSoIn_of (by kernel_rfl) ?_ (fun _ => rfl)) q0 ?_; rotate_left; focus (intro wq hw; have kq := KC.out wq hw; clear hw; go_simp; try (with_reducible rfl))
  refine wpHeldIn_one (i := 3) (by kernel_rfl) (by kernel_rfl) rfl (by kernel_rfl) (fun K2 hK2 => ?_)
  go_simp
  refine ⟨trivial, (callsIn_wide.2 (HSE.out _)).mono ?_⟩
  rintro e w2 ⟨rfl, hb2⟩
  have q2 := q0.trans (hb2.mono q0.size)
  refine hK2 _ _ q2 ?_
  refine wpHeldIn_take (i := 5) (v := ?_) (plain_of (by kernel_rfl)) rfl (by kernel_rfl) (fun _ _ _ h => h) (yieldsSoIn_of (by kernel_rfl) ?_ (fun _ => rfl)) q2 ?_; rotate_left; focus (intro wq hw; clear hw; go_simp; try (with_reducible rfl))
  refine wpHeldIn_take (i := 6) (v := ?_) (plain_of (by kernel_rfl)) rfl (by kernel_rfl) (fun _ _ _ h => h) (yieldsSoIn_of (by kernel_rfl) ?_ (fun _ => rfl)) q2 ?_; rotate_left; focus (intro wq hw; clear hw; go_simp; try (with_reducible rfl))
  refine wpHeldIn_done (by kernel_rfl) ?_ _
  go_simp
  go_wp2_with fail
  go_returns
  exact ⟨rfl, q2⟩
end Go.Proofs.YtkmacpkjobdffaaGreat
namespace Go.Proofs.YtkmacpkjobdffaaGreat
open Go.RowKit Go.Maps
namespace Ti
def seesB (L : List Int) (s : Int) (a : Int) : Bool := L.any fun g => seenV g a == s
def realTo (L : List Int) (s : Int) (k : Nat) : List Int := ((List.range k).filter fun a : Nat => seesB L s (a : Int)).map fun a : Nat => (a : Int)
theorem realTo_yes {L : List Int} {s : Int} {k : Nat} (h : seesB L s (k : Int) = true) : realTo L s (k + 1) = realTo L s k ++ [(k : Int)] := by
  unfold realTo
  rw [List.range_succ, List.filter_append, List.map_append]
  simp [h]
theorem realTo_no {L : List Int} {s : Int} {k : Nat} (h : seesB L s (k : Int) = false) : realTo L s (k + 1) = realTo L s k := by
  unfold realTo
  rw [List.range_succ, List.filter_append, List.map_append]
  simp [h]
theorem realTo_len (L : List Int) (s : Int) (k : Nat) : (realTo L s k).length ≤ k := by
  unfold realTo
  rw [List.length_map]
  exact Nat.le_trans (List.length_filter_le _ _) (by simp)
def realE (E : Int) (t : Tri) (s : Int) : List Int := realTo (allE (fun x => x.1) E t) s 9001
end Ti
theorem ownsRow_belowT {w w' : World} {base size n : Nat} {e : TypeId} {v : Value} {xs : List Value} (h : w.ownsRow base e size v n xs) (hb : Below w.heap.size w w') : w'.ownsRow base e size v n xs := by
  refine ⟨h.1, ?_⟩
  rcases h.2 with h4 | ⟨g, cap, cur, a1, a2, a3, a4⟩
  · exact .inl h4
  · exact .inr ⟨g, cap, cur, a1, a2, (hb.block g (Array.getElem?_eq_some_iff.1 a3).1).trans a3, a4⟩
set_option maxRecDepth 100000 in
set_option maxHeartbeats 8000000 in
theorem RealT_any (t : Ti.Tri) (s : Int) (A : Option Addr) (c : Nat) (w : World) (hl : t.ts.length ≤ 1000000000) (hg : Tsts w w.heap.size A t.ts) :
    Calls Tryz.prog 27 #[.agg (tiV t A c), .int .i64 s] w (IntsEPost (Ti.realE (Ti.opE t (inB s 0 9999)) t s) (Ti.opE t (inB s 0 9999)) w) := by
  have HWI : Hid (∀ W, Calls Tryz.prog 50 #[.int .i64 s, .int .i64 0, .int .i64 9999] W fun e w' => e = .returned (.bool (inB s 0 9999)) ∧ w' = W) := fun W => withinT_any _ _ _ W
  have HA : Hid (∀ W, Below w.heap.size w W → Calls Tryz.prog 57 #[.agg (tiV t A c), .bool (inB s 0 9999), .func (.func 70) #[] #[]] W (IntsEPost (Ti.allE (fun x => x.1) (Ti.opE t (inB s 0 9999)) t) (Ti.opE t (inB s 0 9999)) W)) := fun W hW =>
    allT_any t _ 70 (fun x => x.1) (fun args W => enters_of Tryz.func70 (by kernel_rfl) rfl args W) (fun x => by have := x.2; unfold Ti.gsm at this; (try dsimp only); omega) A c W hl ((hg.keep hW).wider hW.size) (fun x W => Real1_any x W)
  have HLB : Hid (∀ z, z ∈ Ti.allE (fun x => x.1) (Ti.opE t (inB s 0 9999)) t → -50 ≤ z ∧ z ≤ 50) := fun z hz => by
    unfold Ti.allE at hz
    split at hz
    · exact Ti.gains_bd hz
    · cases hz
  have HLL : (Ti.allE (fun x => x.1) (Ti.opE t (inB s 0 9999)) t).length ≤ 101 := by
    unfold Ti.allE
    split
    · exact Ti.gains_len _
    · simp
  unfold IntsEPost at *
  unfold Ti.realE
  generalize Ti.allE (fun x => x.1) (Ti.opE t (inB s 0 9999)) t = L at *
  generalize Ti.opE t (inB s 0 9999) = E at *
  generalize inB s 0 9999 = IB at *
  have HCF : Hid (∀ (a : Int) (A' : Option Addr) (c' BA BS : Nat) W, 0 ≤ a ∧ a ≤ 9000 → Ints W W.heap.size (.slice A' L.length c') L → BoxS W BA 3 #[.int .i64 a] → BoxS W BS 3 #[.int .i64 s] → Calls Tryz.prog 71 #[.slice A' L.length c', .func (.func 72) #[] #[.pointer (some ⟨BA, 0, none⟩), .pointer (some ⟨BS, 0, none⟩)]] W fun e w' => e = .returned (.bool (Ti.seesB L s a)) ∧ Below W.heap.size W w') := fun a A' c' BA BS W ha hI hA hS =>
    containsFunc_any 72 _ _ (fun g => Ti.seenV g a == s) (fun args W => enters_of Tryz.func72 (by kernel_rfl) rfl args W) L A' c' W (by omega) hI
      (fun z V hz hV => Real2_any z a s (HLB.out z hz) ha BA BS V ((hA.below hV).cell 0 rfl) ((hS.below hV).cell 0 rfl) (hA.below hV).lt (hS.below hV).lt)
  have HR0 : Hid (Ti.realTo L s 0 = []) := rfl
  have HRY : Hid (∀ k : Nat, Ti.seesB L s (k : Int) = true → Ti.realTo L s (k + 1) = Ti.realTo L s k ++ [(k : Int)]) := fun k => Ti.realTo_yes
  have HRN : Hid (∀ k : Nat, Ti.seesB L s (k : Int) = false → Ti.realTo L s (k + 1) = Ti.realTo L s k) := fun k => Ti.realTo_no
  have HRL : Hid (∀ k, (Ti.realTo L s k).length ≤ k) := Ti.realTo_len L s
  generalize Ti.realTo L s = RT at *
  generalize Ti.seesB L s = SB at *
  have hmo : Tryz.prog.follows .mixedOrders = true := by kernel_rfl
  clear hg HLB
  unfold tiV at *
  obtain ⟨d, gain, ts⟩ := t
  obtain ⟨full, read, slip, skew, circ, glo, ghi, wrn, dws⟩ := d
  dsimp only at *
  go_enter Tryz.func27, Tryz.ntmps27
  go_wp2_with fail
  have bT := (BoxS.new w 28 #[.int .i64 full, .int .i64 read, .int .i64 slip, .int .i64 skew, .int .i64 circ, .int .i64 glo, .int .i64 ghi, .int .i64 wrn, .int .i64 gain, .slice A ts.length c]).alloc (.cells #[.int .i64 s] 3)
  have bS := BoxS.new (w.alloc (.cells #[.int .i64 full, .int .i64 read, .int .i64 slip, .int .i64 skew, .int .i64 circ, .int .i64 glo, .int .i64 ghi, .int .i64 wrn, .int .i64 gain, .slice A ts.length c] 28)) 3 #[.int .i64 s]
  have hB1 : Below w.heap.size w ((w.alloc (.cells #[.int .i64 full, .int .i64 read, .int .i64 slip, .int .i64 skew, .int .i64 circ, .int .i64 glo, .int .i64 ghi, .int .i64 wrn, .int .i64 gain, .slice A ts.length c] 28)).alloc (.cells #[.int .i64 s] 3)) := by (repeat' (first | (with_reducible exact Below.refl _ _) | (with_reducible assumption) | (with_reducible refine Below.alloc ?_ ?_ _) | (with_reducible refine Below.drew ?_) | (with_reducible refine Below.setCell ?_ ?_ _) | go_size | (exact (by simp)) | omega))
  simp only [World.size_alloc] at bS
  generalize World.alloc (World.alloc w _) _ = w1 at *
  have q0 : Below w1.heap.size w1 w1.drew := (Below.refl _ _).drew
  have KC : Hid (∀ V', Below w1.heap.size w1 V' → (V'.cell? ⟨w.heap.size, 0, none⟩ = some (.int .i64 full) ∧ V'.cell? ⟨w.heap.size, 1, none⟩ = some (.int .i64 read) ∧ V'.cell? ⟨w.heap.size, 2, none⟩ = some (.int .i64 slip) ∧ V'.cell? ⟨w.heap.size, 3, none⟩ = some (.int .i64 skew) ∧ V'.cell? ⟨w.heap.size, 4, none⟩ = some (.int .i64 circ) ∧ V'.cell? ⟨w.heap.size, 5, none⟩ = some (.int .i64 glo) ∧ V'.cell? ⟨w.heap.size, 6, none⟩ = some (.int .i64 ghi) ∧ V'.cell? ⟨w.heap.size, 7, none⟩ = some (.int .i64 wrn) ∧ V'.cell? ⟨w.heap.size, 8, none⟩ = some (.int .i64 gain) ∧ V'.cell? ⟨w.heap.size, 9, none⟩ = some (.slice A ts.length c) ∧ V'.cell? ⟨w.heap.size + 1, 0, none⟩ = some (.int .i64 s))) := fun V' h => ⟨(bT.below h).cell 0 rfl, (bT.below h).cell 1 rfl, (bT.below h).cell 2 rfl, (bT.below h).cell 3 rfl, (bT.below h).cell 4 rfl, (bT.below h).cell 5 rfl, (bT.below h).cell 6 rfl, (bT.below h).cell 7 rfl, (bT.below h).cell 8 rfl, (bT.below h).cell 9 rfl, (bS.below h).cell 0 rfl⟩
  refine (wpIn_wide (n := 4)).1 ?_
  refine wpIn_mono (Q := noPanic _) ?_ noPanic_le
  refine wpIn_region_held (fun V' => Below w1.heap.size w1 V') 30 hmo ?_
  refine wpHeldIn_take (i := 0) (v := ?_) (plain_of (by kernel_rfl)) rfl (by kernel_rfl) (fun _ _ _ h => h) (yieldsSoIn_of (by kernel_rfl) ?_ (fun _ => rfl)) q0 ?_; rotate_left; focus (intro wq hw; have kq := KC.out wq hw; clear hw; go_simp; try (with_reducible rfl))
  refine wpHeldIn_take (i := 1) (v := ?_) (plain_of (by kernel_rfl)) rfl (by kernel_rfl) (fun _ _ _ h => h) (yieldsSoIn_of (by kernel_rfl) ?_ (fun _ => rfl)) q0 ?_; rotate_left; focus (intro wq hw; have kq := KC.out wq hw; clear hw; go_simp; try (with_reducible rfl))
  refine wpHeldIn_take (i := 2) (v := .bool IB) (plain_of (by kernel_rfl)) rfl (by kernel_rfl) (fun _ _ _ h => h) (yieldsSoIn_call (by kernel_rfl) ?_ rfl (fun _ => trivial) (fun m wq hw => callsIn_wide.2 ((HWI.out _).mono (fun e w' h => ⟨h.1, h.2⟩)))) q0 ?_; focus (intro wq hw; clear hw; go_simp; try (with_reducible rfl))
  refine wpHeldIn_one (i := 3) (by kernel_rfl) (by kernel_rfl) rfl (by kernel_rfl) (fun K3 hK3 => ?_)
  go_simp
  refine ⟨trivial, (callsIn_wide.2 (HA.out _ (hB1.trans (q0.mono hB1.size)))).mono ?_⟩
  rintro e w2 ⟨v, rfl, hv, hb2⟩
  have q2 := q0.trans (hb2.mono q0.size)
  have bS2 := bS.below q2
  have hB2 := hB1.trans (q2.mono hB1.size)
  refine hK3 _ _ q2 ?_
  refine wpHeldIn_take (i := 4) (v := ?_) (plain_of (by kernel_rfl)) rfl (by kernel_rfl) (fun _ _ _ h => h) (yieldsSoIn_of (by kernel_rfl) ?_ (fun _ => rfl)) q2 ?_; rotate_left; focus (intro wq hw; clear hw; go_simp; try (with_reducible rfl))
  refine wpHeldIn_take (i := 5) (v := ?_) (plain_of (by kernel_rfl)) rfl (by kernel_rfl) (fun _ _ _ h => h) (yieldsSoIn_of (by kernel_rfl) ?_ (fun _ => rfl)) q2 ?_; rotate_left; focus (intro wq hw; clear hw; go_simp; try (with_reducible rfl))
  refine wpHeldIn_take (i := 6) (v := ?_) (plain_of (by kernel_rfl)) rfl (by kernel_rfl) (fun _ _ _ h => h) (yieldsSoIn_of (by kernel_rfl) ?_ (fun _ => rfl)) q2 ?_; rotate_left; focus (intro wq hw; clear hw; go_simp; try (with_reducible rfl))
  refine wpHeldIn_take (i := 7) (v := ?_) (plain_of (by kernel_rfl)) rfl (by kernel_rfl) (fun _ _ _ h => h) (yieldsSoIn_of (by kernel_rfl) ?_ (fun _ => rfl)) q2 ?_; rotate_left; focus (intro wq hw; clear hw; go_simp; try (with_reducible rfl))
  refine wpHeldIn_take (i := 8) (v := ?_) (plain_of (by kernel_rfl)) rfl (by kernel_rfl) (fun _ _ _ h => h) (yieldsSoIn_of (by kernel_rfl) ?_ (fun _ => rfl)) q2 ?_; rotate_left; focus (intro wq hw; clear hw; go_simp; try (with_reducible rfl))
  refine wpHeldIn_done (by kernel_rfl) ?_ _
  go_simp
  refine noPanic_of ?_
  obtain ⟨A', c', rfl⟩ := ints_form hv.out
  clear KC bT bS q0 q2 hb2 hB1
  go_wp2_with fail
  go_loopw [8, 9, 17] (fun x8 x9 x17 wr => ∃ k : Nat, (k : Int) ≤ 9001 ∧ x17 = .int .i64 (k : Int) ∧ Below w2.heap.size w2 wr ∧ Hid (wr.ownsRow w2.heap.size 3 1 x8 (RT k).length ((RT k).map (Value.int .i64)))) (fun _ _ x17 _ => (9001 - intOf x17).toNat)
  case atStart => exact ⟨0, by omega, rfl, Below.refl _ _, by unfold Hid; rw [HR0.out]; exact World.ownsRow_nil _ _ _ _⟩
  case round =>
    obtain ⟨k, hk, rfl, hB, hO⟩ := hrel
    have hk0 := Int.natCast_nonneg k
    have hln := HRL.out k
    by_cases hlt : (k : Int) < 9001
    · have hw1 : IntKind.i64.wrap ((k : Int) + 1) = (k : Int) + 1 := IntWalk.i64_in _ (by omega)
      have hB3 : Below w2.heap.size w2 (wr.alloc (.cells #[.int .i64 (k : Int)] 3)) := hB.alloc hB.size _
      have bA3 := BoxS.new wr 3 #[.int .i64 (k : Int)]
      have hI3 := (hv.out.keep hB3).more hB3.size
      have HC3 := Lib.hid (HCF.out (k : Int) A' c' _ _ _ (by omega) hI3 bA3 (bS2.below hB3))
      have hO3 := Lib.hid (hO.out.alloc (.cells #[.int .i64 (k : Int)] 3))
      have hry := HRY.out k
      have hrn := HRN.out k
      clear hI3
      cases hsb : SB (k : Int)
      · have HL := Lib.hid (hrn hsb)
        rw [hsb] at HC3
        clear hry hrn hsb
        go_wp2_with fail
        refine HC3.out.mono ?_
        generalize World.alloc wr _ = w3 at *
        rintro e w4 ⟨rfl, hb4⟩
        have hB4 := hB3.trans (hb4.mono hB3.size)
        go_wp2_with fail
        go_roundw
        case rel => exact ⟨k + 1, by omega, by go_num, hB4, by rw [HL.out]; exact ownsRow_belowT hO3.out hb4⟩
        case measure => simp [intOf]; omega
      · have HL := Lib.hid (hry hsb)
        rw [hsb] at HC3
        clear hry hrn hsb
        generalize RT k = R at *
        go_wp2_with fail
        refine HC3.out.mono ?_
        generalize World.alloc wr _ = w3 at *
        rintro e w4 ⟨rfl, hb4⟩
        have hB4 := hB3.trans (hb4.mono hB3.size)
        have bA4 := bA3.below hb4
        have hO4 := Lib.hid (ownsRow_belowT hO3.out hb4)
        have a0 := bA4.cell 0 rfl
        have aL := bA4.lt
        go_wp2_with (at_builtin; refine wpList_pushi rfl (.tmp 23) (.tmp 25) rfl (k : Int) w2.heap.size _ _ _ rfl rfl hO4.out (by have := hB4.size; omega) (by omega) ?_; intro v' w5 hown5 hb5; have HO5 := Lib.hid hown5; have hB5 := hB4.trans hb5; clear hown5)
        go_roundw
        case rel => exact ⟨k + 1, by omega, by go_num, hB5, by unfold Hid; rw [HL.out, List.length_append, List.map_append]; exact HO5.out⟩
        case measure => simp [intOf]; omega
    · have ek : k = 9001 := by omega
      subst ek
      go_wp2_with fail
      go_returns
      exact ⟨_, rfl, Ints.of_own hO.out, hB2.trans (hB.mono hB2.size)⟩
end Go.Proofs.YtkmacpkjobdffaaGreat
