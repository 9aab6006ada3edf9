/- Trials: whether numbers are those of tests, ascending, by the reference. -/
import Derived.Test.YtkmacpkjobdffaaGreatTjG
import Derived.Test.YtkmacpkjobdffaaGreatTiM
import Derived.Test.YtkmacpkjobdffaaGreatTpA
namespace Go.Proofs.YtkmacpkjobdffaaGreat
open Go.RowKit
namespace Ti
theorem op_cases {t : Tri} (h : chkV t = 0) (v : Bool) (hv : v = true) : opE t v = 0 ∨ opE t v = 3 := by
  unfold opE
  rw [if_pos h, if_pos hv]
  split <;> simp
theorem low_le_high {t : Tri} {v : Bool} (h : opE t v = 0) (f : Gk → Int) : lowL f (truthsL t) ≤ highL f (truthsL t) := by
  have h2 := (op_ok h).2.2
  cases hs : truthsL t with
  | nil => exact absurd hs h2
  | cons x l =>
    have key : ∀ (l : List GkS) (a b : Int), l.foldl (fun m x => min m (f x.1)) a ≤ a ∧ b ≤ l.foldl (fun m x => max m (f x.1)) b := by
      intro l
      induction l with
      | nil => exact fun a b => ⟨Int.le_refl _, Int.le_refl _⟩
      | cons y l ih =>
        intro a b
        have := ih (min a (f y.1)) (max b (f y.1))
        simp only [List.foldl_cons]
        omega
    have := key l (min 9223372036854775807 (f x.1)) (max (-9223372036854775808) (f x.1))
    unfold lowL highL
    simp only [List.foldl_cons]
    omega
end Ti
end Go.Proofs.YtkmacpkjobdffaaGreat
namespace Go.Proofs.YtkmacpkjobdffaaGreat
open Go.RowKit
theorem Tsts0.below {w w' : World} {A : Option Addr} {ts : List Ti.Tst} (h : Tsts0 w w.heap.size A ts) (hW : Below w.heap.size w w') : Tsts0 w' w'.heap.size A ts := fun hn => by
  obtain ⟨b, off, e, hB, hc⟩ := h hn
  refine ⟨b, off, e, by have := hW.size; omega, fun k x hk => ?_⟩
  obtain ⟨A', c', h1, h2, h3⟩ := hc k x hk
  exact ⟨A', c', (hW.cell (p := ⟨b, _, none⟩) hB).trans h1, (hW.cell (p := ⟨b, _, none⟩) hB).trans h2, (h3.keep hW).wider hW.size⟩
open Go.ChangeShapes Go.WideShapes Go.ChangeAt Go.RowKit Go.Joins
section
variable {H : Type} {enc : TypeId × Value → H} {w : World} {base : Nat} {spare : Nat → Bool} {held : Bool} {r : Reach} {b0 : Nat} {v : Value} {d : DataW H} {p : List MemPlace}
set_option maxRecDepth 100000 in
theorem open_Class (hv : Value.okWide Tryz.prog w r b0 45 v) (h : DataW.Trod enc Tryz.prog w base spare held 45 v d p) : ∃ a b : Int, v = .agg #[.int .i64 a, .int .i64 b] := by
  obtain ⟨c0, c1, y0, y1, m, rfl, rfl, rfl, hy0, hy1⟩ := open_agg2 Tryz.underlying45 (by kernel_rfl) (by kernel_rfl : Tryz.prog.cellsOf 45 = 2) hv h
  obtain ⟨a, e0, rfl, wa⟩ := DataW.trod_int Tryz.underlying3 hy0
  obtain ⟨b, e1, rfl, wb⟩ := DataW.trod_int Tryz.underlying3 hy1
  simp at e0 e1
  subst e0 e1
  exact ⟨a, b, rfl⟩
end

open Go.ChangeShapes Go.WideShapes Go.ChangeAt Go.RowKit Go.Joins

end Go.Proofs.YtkmacpkjobdffaaGreat
namespace Go.Proofs.YtkmacpkjobdffaaGreat
open Go.RowKit
set_option maxHeartbeats 1000000 in
theorem In_any (v : Value) (xs : List Int) (n : Int) (w : World) (hx : Ints w w.heap.size v xs) (hl : xs.length ≤ 1000000000) :
    Calls Tryz.prog 40 #[v, .int .i64 n] w fun e w' => e = .returned (.bool (decide (n ∈ xs))) ∧ w' = w := by
  obtain ⟨A, c, rfl⟩ := ints_form hx
  have HX := Lib.hid hx
  clear hx
  go_enter Tryz.func40, Tryz.ntmps40
  go_wp2_with fail
  go_loop [5] (fun x => ∃ k : Nat, (k : Int) ≤ xs.length ∧ x = .int .i64 k ∧ Hid (∀ i y, i < k → xs[i]? = some y → y ≠ n)) (fun x => (xs.length - intOf x).toNat)
  case atStart => exact ⟨0, by omega, rfl, fun i y hi => by omega⟩
  case round =>
    obtain ⟨k, hk, rfl, hall⟩ := hrel
    have hk0 := Int.natCast_nonneg k
    by_cases hlt : (k : Int) < xs.length
    · have hkl : k < xs.length := by omega
      have hgk : xs[k]? = some xs[k] := List.getElem?_eq_getElem hkl
      rcases HX.out with ⟨_, e⟩ | ⟨b, off, cap, e, hb, hc⟩
      · subst e; simp at hkl
      · injection e with eA _ ec
        subst eA ec
        have c0 := hc k _ hgk
        have HK := Lib.hid hgk
        clear hc hgk HX
        generalize xs[k] = x at *
        by_cases hxn : x = n
        · have hxB : (x == n) = true := by simpa using hxn
          have hin : Hid (n ∈ xs) := by rw [← hxn]; exact List.mem_of_getElem? HK.out
          clear hxn
          go_wp2_with fail
          go_ret
          exact ⟨ret_b (by simpa using hin.out), rfl⟩
        · have hxB : (x == n) = false := by simpa using hxn
          have hne := Lib.hid hxn
          clear hxn
          go_wp2_with fail
          go_round
          case rel => exact ⟨k + 1, by omega, by go_num, fun i y hi hy => by
            by_cases e : i = k
            · subst e
              rw [HK.out] at hy
              injection hy with hy
              subst hy
              exact hne.out
            · exact hall.out i y (by omega) hy⟩
          case measure => simp [intOf]; omega
    · have hno : Hid (¬ n ∈ xs) := fun h => by
        obtain ⟨i, hi, e⟩ := List.getElem_of_mem h
        exact hall.out i n (by omega) (by rw [← e]; exact List.getElem?_eq_getElem hi) rfl
      go_wp2_with fail
      go_ret
      exact ⟨ret_b (by simpa using hno.out), rfl⟩

end Go.Proofs.YtkmacpkjobdffaaGreat
namespace Go.Proofs.YtkmacpkjobdffaaGreat
open Go.RowKit
namespace Ti
def stepL (n : Nat) (l : List Int) (k : Nat) : Bool := inB ((l[k]?).getD 0) 0 ((n : Int) - 1) && (decide (k = 0) || decide ((l[k - 1]?).getD 0 < (l[k]?).getD 0))
def lsTo (n : Nat) (l : List Int) : Nat → Bool
  | 0 => true
  | k + 1 => lsTo n l k && stepL n l k
theorem lsTo_no {n : Nat} {l : List Int} {k : Nat} (h : stepL n l k = false) : ∀ m, k < m → lsTo n l m = false
  | m + 1, hk => by
    show (lsTo n l m && stepL n l m) = false
    by_cases e : k = m
    · subst e; rw [h, Bool.and_false]
    · rw [lsTo_no h m (by omega), Bool.false_and]
end Ti
set_option maxRecDepth 100000 in
set_option maxHeartbeats 8000000 in
theorem IsList9_any (t : Ti.Tri) (A : Option Addr) (c : Nat) (AV : Option Addr) (cV : Nat) (l : List Int) (w : World) (hn : t.ts.length ≤ 1000000000) (hl : l.length ≤ 1000000000) (hx : l ≠ [] → Ints w w.heap.size (.slice AV l.length cV) l) :
    Calls Tryz.prog 34 #[.agg (tiV t A c), .slice AV l.length cV] w fun e w' => e = .returned (.bool (Ti.lsTo t.ts.length l l.length)) ∧ Below w.heap.size w w' := by
  have HW : Hid (∀ (n h : Int) W, Calls Tryz.prog 52 #[.int .i64 n, .int .i64 0, .int .i64 h] W fun e w' => e = .returned (.bool (inB n 0 h)) ∧ w' = W) := fun n h W => within9_any n 0 h W
  have HL0 : Hid (Ti.lsTo t.ts.length l 0 = true) := rfl
  have HLS : Hid (∀ k, Ti.lsTo t.ts.length l (k + 1) = (Ti.lsTo t.ts.length l k && Ti.stepL t.ts.length l k)) := fun k => rfl
  have HLN : Hid (∀ k, k < l.length → Ti.stepL t.ts.length l k = false → Ti.lsTo t.ts.length l l.length = false) := fun k h1 h2 => Ti.lsTo_no h2 _ h1
  have HST : Hid (∀ k, Ti.stepL t.ts.length l k = (inB ((l[k]?).getD 0) 0 ((t.ts.length : Int) - 1) && (decide (k = 0) || decide ((l[k - 1]?).getD 0 < (l[k]?).getD 0)))) := fun k => rfl
  generalize Ti.lsTo t.ts.length l = LT at *
  generalize Ti.stepL t.ts.length l = ST at *
  have HX := Lib.hid hx
  clear hx
  obtain ⟨d, gain, ts⟩ := t
  obtain ⟨full, read, slip, skew, circ, glo, ghi, wrn, dws⟩ := d
  unfold tiV at *
  dsimp only at *
  have hws : IntKind.i64.wrap ((ts.length : Int) - 1) = (ts.length : Int) - 1 := IntWalk.i64_in _ (by omega)
  have hmo : Tryz.prog.follows .mixedOrders = true := by kernel_rfl
  go_enter Tryz.func34, Tryz.ntmps34
  go_wp2_with fail
  have bT := BoxS.new w 28 #[.int .i64 full, .int .i64 read, .int .i64 slip, .int .i64 skew, .int .i64 circ, .int .i64 glo, .int .i64 ghi, .int .i64 wrn, .int .i64 gain, .slice A ts.length c]
  have hB1 : Below w.heap.size w (w.alloc (.cells #[.int .i64 full, .int .i64 read, .int .i64 slip, .int .i64 skew, .int .i64 circ, .int .i64 glo, .int .i64 ghi, .int .i64 wrn, .int .i64 gain, .slice A ts.length c] 28)) := by (repeat' (first | (with_reducible exact Below.refl _ _) | (with_reducible assumption) | (with_reducible refine Below.alloc ?_ ?_ _) | (with_reducible refine Below.drew ?_) | (with_reducible refine Below.setCell ?_ ?_ _) | go_size | (exact (by simp)) | omega))
  generalize World.alloc w _ = w1 at *
  go_loopw [5] (fun x5 wr => ∃ k : Nat, (k : Int) ≤ l.length ∧ x5 = .int .i64 (k : Int) ∧ Below w1.heap.size w1 wr ∧ BoxS wr w.heap.size 28 #[.int .i64 full, .int .i64 read, .int .i64 slip, .int .i64 skew, .int .i64 circ, .int .i64 glo, .int .i64 ghi, .int .i64 wrn, .int .i64 gain, .slice A ts.length c] ∧ Hid (LT k = true)) (fun x5 _ => (l.length - intOf x5).toNat)
  case atStart => exact ⟨0, by omega, rfl, Below.refl _ _, bT, HL0.out⟩
  case round =>
    obtain ⟨k, hk, rfl, hbw, bT1, hat⟩ := hrel
    have hk0 := Int.natCast_nonneg k
    by_cases hlt : (k : Int) < l.length
    · have hkl : k < l.length := by omega
      have hw1 : IntKind.i64.wrap ((k : Int) + 1) = (k : Int) + 1 := IntWalk.i64_in _ (by omega)
      have hBr := hB1.trans (hbw.mono hB1.size)
      have hlne : l ≠ [] := by intro h; rw [h] at hkl; simp at hkl
      obtain ⟨bl, ol, rfl, hbl, hcl⟩ := ints_some (HX.out hlne) hlne
      clear hlne
      have hgk : l[k]? = some l[k] := List.getElem?_eq_getElem hkl
      have c0 := (hBr.cell (p := ⟨bl, ol + k, none⟩) hbl).trans (hcl k _ hgk)
      have hbr : bl < wr.heap.size := by have := hBr.size; omega
      have HS1 := HST.out k
      rw [hgk] at HS1
      simp only [Option.getD_some] at HS1
      have HL1 := HLS.out k
      have HN1 := HLN.out k hkl
      have HW1 := Lib.hid (HW.out l[k] ((ts.length : Int) - 1))
      by_cases hin : inB l[k] 0 ((ts.length : Int) - 1) = true
      · rw [hin] at HW1 HS1
        rcases k with _ | j
        · have HA1 : Hid (LT (0 + 1) = true) := by unfold Hid; rw [HL1, HS1, hat.out]; rfl
          generalize l[0] = x at *
          rw [Nat.add_zero] at c0
          clear HS1 HL1 HN1 hcl hgk
          go_wp2_with fail
          have q0 : Below wr.heap.size wr.drew wr.drew := Below.refl _ _
          have KC : Hid (∀ V', Below wr.heap.size wr.drew V' → (V'.cell? ⟨bl, ol, none⟩ = some (.int .i64 x) ∧ V'.cell? ⟨w.heap.size, 9, none⟩ = some (.slice A ts.length c))) := fun V' h =>
            have hk : ∀ (bb o : Nat) (u : Value), bb < wr.heap.size → wr.cell? ⟨bb, o, none⟩ = some u → V'.cell? ⟨bb, o, none⟩ = some u := fun bb o u h1 h2 => (h.cell (p := ⟨bb, o, none⟩) h1).trans h2
            ⟨hk _ _ _ hbr c0, hk _ _ _ bT1.lt (bT1.cell 9 rfl)⟩
          refine (wpIn_wide (n := 4)).1 ?_
          refine wpIn_mono (Q := noPanic _) ?_ noPanic_le
          refine wpIn_region_held (fun V' => Below wr.heap.size wr.drew V') 40 hmo ?_
          refine wpHeldIn_take (i := 0) (v := ?_) (plain_of (by kernel_rfl)) rfl (by kernel_rfl) (fun _ _ _ h => h) (yieldsSoIn_of (by kernel_rfl) ?_ (fun _ => rfl)) q0 ?_; rotate_left; focus (intro wq hw; clear hw; go_simp; try (with_reducible rfl))
          refine wpHeldIn_take (i := 1) (v := ?_) (plain_of (by kernel_rfl)) rfl (by kernel_rfl) (fun _ _ _ h => h) (yieldsSoIn_of (by kernel_rfl) ?_ (fun _ => rfl)) q0 ?_; rotate_left; focus (intro wq hw; clear hw; go_simp; try (with_reducible rfl))
          refine wpHeldIn_take (i := 2) (v := ?_) (plain_of (by kernel_rfl)) rfl (by kernel_rfl) (fun _ _ _ h => h) (yieldsSoIn_of (by kernel_rfl) ?_ (fun _ => rfl)) q0 ?_; rotate_left; focus (intro wq hw; clear hw; go_simp; try (with_reducible rfl))
          refine wpHeldIn_take (i := 3) (v := ?_) (plain_of (by kernel_rfl)) rfl (by kernel_rfl) (fun _ _ _ h => h) (yieldsSoIn_of (by kernel_rfl) ?_ (fun _ => rfl)) q0 ?_; rotate_left; focus (intro wq hw; have kq := KC.out wq hw; clear hw; go_simp; try (with_reducible rfl))
          refine wpHeldIn_take (i := 4) (v := ?_) (plain_of (by kernel_rfl)) rfl (by kernel_rfl) (fun _ _ _ h => h) (yieldsSoIn_of (by kernel_rfl) ?_ (fun _ => rfl)) q0 ?_; rotate_left; focus (intro wq hw; clear hw; go_simp; try (with_reducible rfl))
          refine wpHeldIn_take (i := 5) (v := ?_) (plain_of (by kernel_rfl)) rfl (by kernel_rfl) (fun _ _ _ h => h) (yieldsSoIn_of (by kernel_rfl) ?_ (fun _ => rfl)) q0 ?_; rotate_left; focus (intro wq hw; have kq := KC.out wq hw; clear hw; go_simp; try (with_reducible rfl))
          refine wpHeldIn_take (i := 6) (v := ?_) (plain_of (by kernel_rfl)) rfl (by kernel_rfl) (fun _ _ _ h => h) (yieldsSoIn_of (by kernel_rfl) ?_ (fun _ => rfl)) q0 ?_; rotate_left; focus (intro wq hw; clear hw; go_simp; try (with_reducible rfl))
          refine wpHeldIn_take (i := 7) (v := ?_) (plain_of (by kernel_rfl)) rfl (by kernel_rfl) (fun _ _ _ h => h) (yieldsSoIn_of (by kernel_rfl) ?_ (fun _ => rfl)) q0 ?_; rotate_left; focus (intro wq hw; clear hw; go_simp; try (with_reducible rfl))
          refine wpHeldIn_take (i := 8) (v := .bool true) (plain_of (by kernel_rfl)) rfl (by kernel_rfl) (fun _ _ _ h => h) (yieldsSoIn_call (by kernel_rfl) ?_ rfl (fun _ => trivial) (fun m wq hw => callsIn_wide.2 ((HW1.out _).mono (fun e w' h => ⟨h.1, h.2⟩)))) q0 ?_; focus (intro wq hw; clear hw; go_simp; try (with_reducible rfl))
          refine wpHeldIn_take (i := 9) (v := ?_) (plain_of (by kernel_rfl)) rfl (by kernel_rfl) (fun _ _ _ h => h) (yieldsSoIn_of (by kernel_rfl) ?_ (fun _ => rfl)) q0 ?_; rotate_left; focus (intro wq hw; clear hw; go_simp; try (with_reducible rfl))
          refine wpHeldIn_take (i := 10) (v := ?_) (plain_of (by kernel_rfl)) rfl (by kernel_rfl) (fun _ _ _ h => h) (yieldsSoIn_of (by kernel_rfl) ?_ (fun _ => rfl)) q0 ?_; rotate_left; focus (intro wq hw; clear hw; go_simp; try (with_reducible rfl))
          refine wpHeldIn_take (i := 11) (v := ?_) (plain_of (by kernel_rfl)) rfl (by kernel_rfl) (fun _ _ _ h => h) (yieldsSoIn_of (by kernel_rfl) ?_ (fun _ => rfl)) q0 ?_; rotate_left; focus (intro wq hw; clear hw; go_simp; try (with_reducible rfl))
          refine wpHeldIn_take (i := 12) (v := ?_) (plain_of (by kernel_rfl)) rfl (by kernel_rfl) (fun _ _ _ h => h) (yieldsSoIn_of (by kernel_rfl) ?_ (fun _ => rfl)) q0 ?_; rotate_left; focus (intro wq hw; clear hw; go_simp; try (with_reducible rfl))
          refine wpHeldIn_take (i := 13) (v := ?_) (plain_of (by kernel_rfl)) rfl (by kernel_rfl) (fun _ _ _ h => h) (yieldsSoIn_of (by kernel_rfl) ?_ (fun _ => rfl)) q0 ?_; rotate_left; focus (intro wq hw; clear hw; go_simp; try (with_reducible rfl))
          refine wpHeldIn_take (i := 14) (plain_of (by kernel_rfl)) rfl (by kernel_rfl) (fun _ _ _ h => h) (yieldsSoIn_skip (by kernel_rfl) (fun _ => trivial)) q0 ?_
          refine wpHeldIn_take (i := 15) (plain_of (by kernel_rfl)) rfl (by kernel_rfl) (fun _ _ _ h => h) (yieldsSoIn_skip (by kernel_rfl) (fun _ => trivial)) q0 ?_
          refine wpHeldIn_take (i := 16) (plain_of (by kernel_rfl)) rfl (by kernel_rfl) (fun _ _ _ h => h) (yieldsSoIn_skip (by kernel_rfl) (fun _ => trivial)) q0 ?_
          refine wpHeldIn_take (i := 17) (plain_of (by kernel_rfl)) rfl (by kernel_rfl) (fun _ _ _ h => h) (yieldsSoIn_skip (by kernel_rfl) (fun _ => trivial)) q0 ?_
          refine wpHeldIn_take (i := 18) (plain_of (by kernel_rfl)) rfl (by kernel_rfl) (fun _ _ _ h => h) (yieldsSoIn_skip (by kernel_rfl) (fun _ => trivial)) q0 ?_
          refine wpHeldIn_take (i := 19) (plain_of (by kernel_rfl)) rfl (by kernel_rfl) (fun _ _ _ h => h) (yieldsSoIn_skip (by kernel_rfl) (fun _ => trivial)) q0 ?_
          refine wpHeldIn_take (i := 20) (plain_of (by kernel_rfl)) rfl (by kernel_rfl) (fun _ _ _ h => h) (yieldsSoIn_skip (by kernel_rfl) (fun _ => trivial)) q0 ?_
          refine wpHeldIn_take (i := 21) (plain_of (by kernel_rfl)) rfl (by kernel_rfl) (fun _ _ _ h => h) (yieldsSoIn_skip (by kernel_rfl) (fun _ => trivial)) q0 ?_
          refine wpHeldIn_take (i := 22) (plain_of (by kernel_rfl)) rfl (by kernel_rfl) (fun _ _ _ h => h) (yieldsSoIn_skip (by kernel_rfl) (fun _ => trivial)) q0 ?_
          refine wpHeldIn_take (i := 23) (plain_of (by kernel_rfl)) rfl (by kernel_rfl) (fun _ _ _ h => h) (yieldsSoIn_skip (by kernel_rfl) (fun _ => trivial)) q0 ?_
          refine wpHeldIn_take (i := 24) (v := ?_) (plain_of (by kernel_rfl)) rfl (by kernel_rfl) (fun _ _ _ h => h) (yieldsSoIn_of (by kernel_rfl) ?_ (fun _ => rfl)) q0 ?_; rotate_left; focus (intro wq hw; clear hw; go_simp; try (with_reducible rfl))
          refine wpHeldIn_take (i := 25) (v := ?_) (plain_of (by kernel_rfl)) rfl (by kernel_rfl) (fun _ _ _ h => h) (yieldsSoIn_of (by kernel_rfl) ?_ (fun _ => rfl)) q0 ?_; rotate_left; focus (intro wq hw; clear hw; go_simp; try (with_reducible rfl))
          refine wpHeldIn_done (by kernel_rfl) ?_ _
          go_simp
          refine noPanic_of ?_
          clear KC q0
          go_wp2_with fail
          go_roundw
          case rel => exact ⟨0 + 1, by omega, by go_num, hbw.drew, bT1.drew, HA1⟩
          case measure => simp [intOf]; omega
        · have hgj : l[j]? = some l[j] := List.getElem?_eq_getElem (by omega)
          have c1 := (hBr.cell (p := ⟨bl, ol + j, none⟩) hbl).trans (hcl j _ hgj)
          have hwj : IntKind.i64.wrap (((j + 1 : Nat) : Int) - 1) = (j : Int) := by rw [show ((j + 1 : Nat) : Int) - 1 = (j : Int) by omega]; exact IntWalk.i64_in _ (by omega)
          have hwj2 : IntKind.i64.wrap ((j : Int) + 1 - 1) = (j : Int) := by rw [show (j : Int) + 1 - 1 = (j : Int) by omega]; exact IntWalk.i64_in _ (by omega)
          have hjl : (j : Int) < l.length := by omega
          have hwj3 : IntKind.i64.wrap (j : Int) = (j : Int) := IntWalk.i64_in _ (by omega)
          have hj0 : (0 : Int) ≤ (j : Int) + 1 := by omega
          have hj00 : (0 : Int) ≤ (j : Int) := by omega
          have hjl1 : (j : Int) + 1 < l.length := by omega
          have e2 : j + 1 - 1 = j := by omega
          rw [e2, hgj] at HS1
          simp only [Option.getD_some] at HS1
          generalize l[j] = y at *
          generalize l[j + 1] = x at *
          by_cases hyx : y < x
          · have HA1 : Hid (LT (j + 1 + 1) = true) := by unfold Hid; rw [HL1, HS1, hat.out]; simp [hyx]
            have hle : decide (x ≤ y) = false := decide_eq_false (by omega)
            clear HS1 HL1 HN1 hcl hgk hgj
            go_wp2_with fail
            have q0 : Below wr.heap.size wr.drew wr.drew := Below.refl _ _
            have KC : Hid (∀ V', Below wr.heap.size wr.drew V' → (V'.cell? ⟨bl, ol + (j + 1), none⟩ = some (.int .i64 x) ∧ V'.cell? ⟨bl, ol + j + 1, none⟩ = some (.int .i64 x) ∧ V'.cell? ⟨bl, ol + j, none⟩ = some (.int .i64 y) ∧ V'.cell? ⟨w.heap.size, 9, none⟩ = some (.slice A ts.length c))) := fun V' h =>
              have hk : ∀ (bb o : Nat) (u : Value), bb < wr.heap.size → wr.cell? ⟨bb, o, none⟩ = some u → V'.cell? ⟨bb, o, none⟩ = some u := fun bb o u h1 h2 => (h.cell (p := ⟨bb, o, none⟩) h1).trans h2
              ⟨hk _ _ _ hbr c0, hk _ _ _ hbr c0, hk _ _ _ hbr c1, hk _ _ _ bT1.lt (bT1.cell 9 rfl)⟩
            refine (wpIn_wide (n := 4)).1 ?_
            refine wpIn_mono (Q := noPanic _) ?_ noPanic_le
            refine wpIn_region_held (fun V' => Below wr.heap.size wr.drew V') 40 hmo ?_
            refine wpHeldIn_take (i := 0) (v := ?_) (plain_of (by kernel_rfl)) rfl (by kernel_rfl) (fun _ _ _ h => h) (yieldsSoIn_of (by kernel_rfl) ?_ (fun _ => rfl)) q0 ?_; rotate_left; focus (intro wq hw; clear hw; go_simp; try (with_reducible rfl))
            refine wpHeldIn_take (i := 1) (v := ?_) (plain_of (by kernel_rfl)) rfl (by kernel_rfl) (fun _ _ _ h => h) (yieldsSoIn_of (by kernel_rfl) ?_ (fun _ => rfl)) q0 ?_; rotate_left; focus (intro wq hw; clear hw; go_simp; try (with_reducible rfl))
            refine wpHeldIn_take (i := 2) (v := ?_) (plain_of (by kernel_rfl)) rfl (by kernel_rfl) (fun _ _ _ h => h) (yieldsSoIn_of (by kernel_rfl) ?_ (fun _ => rfl)) q0 ?_; rotate_left; focus (intro wq hw; clear hw; go_simp; try (with_reducible rfl))
            refine wpHeldIn_take (i := 3) (v := ?_) (plain_of (by kernel_rfl)) rfl (by kernel_rfl) (fun _ _ _ h => h) (yieldsSoIn_of (by kernel_rfl) ?_ (fun _ => rfl)) q0 ?_; rotate_left; focus (intro wq hw; have kq := KC.out wq hw; clear hw; go_simp; try (with_reducible rfl))
            refine wpHeldIn_take (i := 4) (v := ?_) (plain_of (by kernel_rfl)) rfl (by kernel_rfl) (fun _ _ _ h => h) (yieldsSoIn_of (by kernel_rfl) ?_ (fun _ => rfl)) q0 ?_; rotate_left; focus (intro wq hw; clear hw; go_simp; try (with_reducible rfl))
            refine wpHeldIn_take (i := 5) (v := ?_) (plain_of (by kernel_rfl)) rfl (by kernel_rfl) (fun _ _ _ h => h) (yieldsSoIn_of (by kernel_rfl) ?_ (fun _ => rfl)) q0 ?_; rotate_left; focus (intro wq hw; have kq := KC.out wq hw; clear hw; go_simp; try (with_reducible rfl))
            refine wpHeldIn_take (i := 6) (v := ?_) (plain_of (by kernel_rfl)) rfl (by kernel_rfl) (fun _ _ _ h => h) (yieldsSoIn_of (by kernel_rfl) ?_ (fun _ => rfl)) q0 ?_; rotate_left; focus (intro wq hw; clear hw; go_simp; try (with_reducible rfl))
            refine wpHeldIn_take (i := 7) (v := ?_) (plain_of (by kernel_rfl)) rfl (by kernel_rfl) (fun _ _ _ h => h) (yieldsSoIn_of (by kernel_rfl) ?_ (fun _ => rfl)) q0 ?_; rotate_left; focus (intro wq hw; clear hw; go_simp; try (with_reducible rfl))
            refine wpHeldIn_take (i := 8) (v := .bool true) (plain_of (by kernel_rfl)) rfl (by kernel_rfl) (fun _ _ _ h => h) (yieldsSoIn_call (by kernel_rfl) ?_ rfl (fun _ => trivial) (fun m wq hw => callsIn_wide.2 ((HW1.out _).mono (fun e w' h => ⟨h.1, h.2⟩)))) q0 ?_; focus (intro wq hw; clear hw; go_simp; try (with_reducible rfl))
            refine wpHeldIn_take (i := 9) (v := ?_) (plain_of (by kernel_rfl)) rfl (by kernel_rfl) (fun _ _ _ h => h) (yieldsSoIn_of (by kernel_rfl) ?_ (fun _ => rfl)) q0 ?_; rotate_left; focus (intro wq hw; clear hw; go_simp; try (with_reducible rfl))
            refine wpHeldIn_take (i := 10) (v := ?_) (plain_of (by kernel_rfl)) rfl (by kernel_rfl) (fun _ _ _ h => h) (yieldsSoIn_of (by kernel_rfl) ?_ (fun _ => rfl)) q0 ?_; rotate_left; focus (intro wq hw; clear hw; go_simp; try (with_reducible rfl))
            refine wpHeldIn_take (i := 11) (v := ?_) (plain_of (by kernel_rfl)) rfl (by kernel_rfl) (fun _ _ _ h => h) (yieldsSoIn_of (by kernel_rfl) ?_ (fun _ => rfl)) q0 ?_; rotate_left; focus (intro wq hw; clear hw; go_simp; try (with_reducible rfl))
            refine wpHeldIn_take (i := 12) (v := ?_) (plain_of (by kernel_rfl)) rfl (by kernel_rfl) (fun _ _ _ h => h) (yieldsSoIn_of (by kernel_rfl) ?_ (fun _ => rfl)) q0 ?_; rotate_left; focus (intro wq hw; clear hw; go_simp; try (with_reducible rfl))
            refine wpHeldIn_take (i := 13) (v := ?_) (plain_of (by kernel_rfl)) rfl (by kernel_rfl) (fun _ _ _ h => h) (yieldsSoIn_of (by kernel_rfl) ?_ (fun _ => rfl)) q0 ?_; rotate_left; focus (intro wq hw; clear hw; go_simp; try (with_reducible rfl))
            refine wpHeldIn_take (i := 14) (v := ?_) (plain_of (by kernel_rfl)) rfl (by kernel_rfl) (fun _ _ _ h => h) (yieldsSoIn_of (by kernel_rfl) ?_ (fun _ => rfl)) q0 ?_; rotate_left; focus (intro wq hw; clear hw; go_simp; try (with_reducible rfl))
            refine wpHeldIn_take (i := 15) (v := ?_) (plain_of (by kernel_rfl)) rfl (by kernel_rfl) (fun _ _ _ h => h) (yieldsSoIn_of (by kernel_rfl) ?_ (fun _ => rfl)) q0 ?_; rotate_left; focus (intro wq hw; clear hw; go_simp; try (with_reducible rfl))
            refine wpHeldIn_take (i := 16) (v := ?_) (plain_of (by kernel_rfl)) rfl (by kernel_rfl) (fun _ _ _ h => h) (yieldsSoIn_of (by kernel_rfl) ?_ (fun _ => rfl)) q0 ?_; rotate_left; focus (intro wq hw; clear hw; go_simp; try (with_reducible rfl))
            refine wpHeldIn_take (i := 17) (v := ?_) (plain_of (by kernel_rfl)) rfl (by kernel_rfl) (fun _ _ _ h => h) (yieldsSoIn_of (by kernel_rfl) ?_ (fun _ => rfl)) q0 ?_; rotate_left; focus (intro wq hw; have kq := KC.out wq hw; clear hw; go_simp; try (with_reducible rfl))
            refine wpHeldIn_take (i := 18) (v := ?_) (plain_of (by kernel_rfl)) rfl (by kernel_rfl) (fun _ _ _ h => h) (yieldsSoIn_of (by kernel_rfl) ?_ (fun _ => rfl)) q0 ?_; rotate_left; focus (intro wq hw; clear hw; go_simp; try (with_reducible rfl))
            refine wpHeldIn_take (i := 19) (v := ?_) (plain_of (by kernel_rfl)) rfl (by kernel_rfl) (fun _ _ _ h => h) (yieldsSoIn_of (by kernel_rfl) ?_ (fun _ => rfl)) q0 ?_; rotate_left; focus (intro wq hw; clear hw; go_simp; try (with_reducible rfl))
            refine wpHeldIn_take (i := 20) (v := ?_) (plain_of (by kernel_rfl)) rfl (by kernel_rfl) (fun _ _ _ h => h) (yieldsSoIn_of (by kernel_rfl) ?_ (fun _ => rfl)) q0 ?_; rotate_left; focus (intro wq hw; clear hw; go_simp; try (with_reducible rfl))
            refine wpHeldIn_take (i := 21) (v := ?_) (plain_of (by kernel_rfl)) rfl (by kernel_rfl) (fun _ _ _ h => h) (yieldsSoIn_of (by kernel_rfl) ?_ (fun _ => rfl)) q0 ?_; rotate_left; focus (intro wq hw; clear hw; go_simp; try (with_reducible rfl))
            refine wpHeldIn_take (i := 22) (v := ?_) (plain_of (by kernel_rfl)) rfl (by kernel_rfl) (fun _ _ _ h => h) (yieldsSoIn_of (by kernel_rfl) ?_ (fun _ => rfl)) q0 ?_; rotate_left; focus (intro wq hw; have kq := KC.out wq hw; clear hw; go_simp; try (with_reducible rfl))
            refine wpHeldIn_take (i := 23) (v := ?_) (plain_of (by kernel_rfl)) rfl (by kernel_rfl) (fun _ _ _ h => h) (yieldsSoIn_of (by kernel_rfl) ?_ (fun _ => rfl)) q0 ?_; rotate_left; focus (intro wq hw; clear hw; go_simp; try (with_reducible rfl))
            refine wpHeldIn_take (i := 24) (v := ?_) (plain_of (by kernel_rfl)) rfl (by kernel_rfl) (fun _ _ _ h => h) (yieldsSoIn_of (by kernel_rfl) ?_ (fun _ => rfl)) q0 ?_; rotate_left; focus (intro wq hw; clear hw; go_simp; try (with_reducible rfl))
            refine wpHeldIn_take (i := 25) (v := ?_) (plain_of (by kernel_rfl)) rfl (by kernel_rfl) (fun _ _ _ h => h) (yieldsSoIn_of (by kernel_rfl) ?_ (fun _ => rfl)) q0 ?_; rotate_left; focus (intro wq hw; clear hw; go_simp; try (with_reducible rfl))
            refine wpHeldIn_done (by kernel_rfl) ?_ _
            go_simp
            refine noPanic_of ?_
            clear KC q0
            go_wp2_with fail
            go_roundw
            case rel => exact ⟨(j + 1) + 1, by omega, by go_num, hbw.drew, bT1.drew, HA1⟩
            case measure => simp [intOf]; omega
          · have HR1 : Hid (LT l.length = false) := HN1 (by rw [HS1]; simp [hyx])
            have hle : decide (x ≤ y) = true := decide_eq_true (by omega)
            clear HS1 HL1 HN1 hcl hgk hgj
            go_wp2_with fail
            have q0 : Below wr.heap.size wr.drew wr.drew := Below.refl _ _
            have KC : Hid (∀ V', Below wr.heap.size wr.drew V' → (V'.cell? ⟨bl, ol + (j + 1), none⟩ = some (.int .i64 x) ∧ V'.cell? ⟨bl, ol + j + 1, none⟩ = some (.int .i64 x) ∧ V'.cell? ⟨bl, ol + j, none⟩ = some (.int .i64 y) ∧ V'.cell? ⟨w.heap.size, 9, none⟩ = some (.slice A ts.length c))) := fun V' h =>
              have hk : ∀ (bb o : Nat) (u : Value), bb < wr.heap.size → wr.cell? ⟨bb, o, none⟩ = some u → V'.cell? ⟨bb, o, none⟩ = some u := fun bb o u h1 h2 => (h.cell (p := ⟨bb, o, none⟩) h1).trans h2
              ⟨hk _ _ _ hbr c0, hk _ _ _ hbr c0, hk _ _ _ hbr c1, hk _ _ _ bT1.lt (bT1.cell 9 rfl)⟩
            refine (wpIn_wide (n := 4)).1 ?_
            refine wpIn_mono (Q := noPanic _) ?_ noPanic_le
            refine wpIn_region_held (fun V' => Below wr.heap.size wr.drew V') 40 hmo ?_
            refine wpHeldIn_take (i := 0) (v := ?_) (plain_of (by kernel_rfl)) rfl (by kernel_rfl) (fun _ _ _ h => h) (yieldsSoIn_of (by kernel_rfl) ?_ (fun _ => rfl)) q0 ?_; rotate_left; focus (intro wq hw; clear hw; go_simp; try (with_reducible rfl))
            refine wpHeldIn_take (i := 1) (v := ?_) (plain_of (by kernel_rfl)) rfl (by kernel_rfl) (fun _ _ _ h => h) (yieldsSoIn_of (by kernel_rfl) ?_ (fun _ => rfl)) q0 ?_; rotate_left; focus (intro wq hw; clear hw; go_simp; try (with_reducible rfl))
            refine wpHeldIn_take (i := 2) (v := ?_) (plain_of (by kernel_rfl)) rfl (by kernel_rfl) (fun _ _ _ h => h) (yieldsSoIn_of (by kernel_rfl) ?_ (fun _ => rfl)) q0 ?_; rotate_left; focus (intro wq hw; clear hw; go_simp; try (with_reducible rfl))
            refine wpHeldIn_take (i := 3) (v := ?_) (plain_of (by kernel_rfl)) rfl (by kernel_rfl) (fun _ _ _ h => h) (yieldsSoIn_of (by kernel_rfl) ?_ (fun _ => rfl)) q0 ?_; rotate_left; focus (intro wq hw; have kq := KC.out wq hw; clear hw; go_simp; try (with_reducible rfl))
            refine wpHeldIn_take (i := 4) (v := ?_) (plain_of (by kernel_rfl)) rfl (by kernel_rfl) (fun _ _ _ h => h) (yieldsSoIn_of (by kernel_rfl) ?_ (fun _ => rfl)) q0 ?_; rotate_left; focus (intro wq hw; clear hw; go_simp; try (with_reducible rfl))
            refine wpHeldIn_take (i := 5) (v := ?_) (plain_of (by kernel_rfl)) rfl (by kernel_rfl) (fun _ _ _ h => h) (yieldsSoIn_of (by kernel_rfl) ?_ (fun _ => rfl)) q0 ?_; rotate_left; focus (intro wq hw; have kq := KC.out wq hw; clear hw; go_simp; try (with_reducible rfl))
            refine wpHeldIn_take (i := 6) (v := ?_) (plain_of (by kernel_rfl)) rfl (by kernel_rfl) (fun _ _ _ h => h) (yieldsSoIn_of (by kernel_rfl) ?_ (fun _ => rfl)) q0 ?_; rotate_left; focus (intro wq hw; clear hw; go_simp; try (with_reducible rfl))
            refine wpHeldIn_take (i := 7) (v := ?_) (plain_of (by kernel_rfl)) rfl (by kernel_rfl) (fun _ _ _ h => h) (yieldsSoIn_of (by kernel_rfl) ?_ (fun _ => rfl)) q0 ?_; rotate_left; focus (intro wq hw; clear hw; go_simp; try (with_reducible rfl))
            refine wpHeldIn_take (i := 8) (v := .bool true) (plain_of (by kernel_rfl)) rfl (by kernel_rfl) (fun _ _ _ h => h) (yieldsSoIn_call (by kernel_rfl) ?_ rfl (fun _ => trivial) (fun m wq hw => callsIn_wide.2 ((HW1.out _).mono (fun e w' h => ⟨h.1, h.2⟩)))) q0 ?_; focus (intro wq hw; clear hw; go_simp; try (with_reducible rfl))
            refine wpHeldIn_take (i := 9) (v := ?_) (plain_of (by kernel_rfl)) rfl (by kernel_rfl) (fun _ _ _ h => h) (yieldsSoIn_of (by kernel_rfl) ?_ (fun _ => rfl)) q0 ?_; rotate_left; focus (intro wq hw; clear hw; go_simp; try (with_reducible rfl))
            refine wpHeldIn_take (i := 10) (v := ?_) (plain_of (by kernel_rfl)) rfl (by kernel_rfl) (fun _ _ _ h => h) (yieldsSoIn_of (by kernel_rfl) ?_ (fun _ => rfl)) q0 ?_; rotate_left; focus (intro wq hw; clear hw; go_simp; try (with_reducible rfl))
            refine wpHeldIn_take (i := 11) (v := ?_) (plain_of (by kernel_rfl)) rfl (by kernel_rfl) (fun _ _ _ h => h) (yieldsSoIn_of (by kernel_rfl) ?_ (fun _ => rfl)) q0 ?_; rotate_left; focus (intro wq hw; clear hw; go_simp; try (with_reducible rfl))
            refine wpHeldIn_take (i := 12) (v := ?_) (plain_of (by kernel_rfl)) rfl (by kernel_rfl) (fun _ _ _ h => h) (yieldsSoIn_of (by kernel_rfl) ?_ (fun _ => rfl)) q0 ?_; rotate_left; focus (intro wq hw; clear hw; go_simp; try (with_reducible rfl))
            refine wpHeldIn_take (i := 13) (v := ?_) (plain_of (by kernel_rfl)) rfl (by kernel_rfl) (fun _ _ _ h => h) (yieldsSoIn_of (by kernel_rfl) ?_ (fun _ => rfl)) q0 ?_; rotate_left; focus (intro wq hw; clear hw; go_simp; try (with_reducible rfl))
            refine wpHeldIn_take (i := 14) (v := ?_) (plain_of (by kernel_rfl)) rfl (by kernel_rfl) (fun _ _ _ h => h) (yieldsSoIn_of (by kernel_rfl) ?_ (fun _ => rfl)) q0 ?_; rotate_left; focus (intro wq hw; clear hw; go_simp; try (with_reducible rfl))
            refine wpHeldIn_take (i := 15) (v := ?_) (plain_of (by kernel_rfl)) rfl (by kernel_rfl) (fun _ _ _ h => h) (yieldsSoIn_of (by kernel_rfl) ?_ (fun _ => rfl)) q0 ?_; rotate_left; focus (intro wq hw; clear hw; go_simp; try (with_reducible rfl))
            refine wpHeldIn_take (i := 16) (v := ?_) (plain_of (by kernel_rfl)) rfl (by kernel_rfl) (fun _ _ _ h => h) (yieldsSoIn_of (by kernel_rfl) ?_ (fun _ => rfl)) q0 ?_; rotate_left; focus (intro wq hw; clear hw; go_simp; try (with_reducible rfl))
            refine wpHeldIn_take (i := 17) (v := ?_) (plain_of (by kernel_rfl)) rfl (by kernel_rfl) (fun _ _ _ h => h) (yieldsSoIn_of (by kernel_rfl) ?_ (fun _ => rfl)) q0 ?_; rotate_left; focus (intro wq hw; have kq := KC.out wq hw; clear hw; go_simp; try (with_reducible rfl))
            refine wpHeldIn_take (i := 18) (v := ?_) (plain_of (by kernel_rfl)) rfl (by kernel_rfl) (fun _ _ _ h => h) (yieldsSoIn_of (by kernel_rfl) ?_ (fun _ => rfl)) q0 ?_; rotate_left; focus (intro wq hw; clear hw; go_simp; try (with_reducible rfl))
            refine wpHeldIn_take (i := 19) (v := ?_) (plain_of (by kernel_rfl)) rfl (by kernel_rfl) (fun _ _ _ h => h) (yieldsSoIn_of (by kernel_rfl) ?_ (fun _ => rfl)) q0 ?_; rotate_left; focus (intro wq hw; clear hw; go_simp; try (with_reducible rfl))
            refine wpHeldIn_take (i := 20) (v := ?_) (plain_of (by kernel_rfl)) rfl (by kernel_rfl) (fun _ _ _ h => h) (yieldsSoIn_of (by kernel_rfl) ?_ (fun _ => rfl)) q0 ?_; rotate_left; focus (intro wq hw; clear hw; go_simp; try (with_reducible rfl))
            refine wpHeldIn_take (i := 21) (v := ?_) (plain_of (by kernel_rfl)) rfl (by kernel_rfl) (fun _ _ _ h => h) (yieldsSoIn_of (by kernel_rfl) ?_ (fun _ => rfl)) q0 ?_; rotate_left; focus (intro wq hw; clear hw; go_simp; try (with_reducible rfl))
            refine wpHeldIn_take (i := 22) (v := ?_) (plain_of (by kernel_rfl)) rfl (by kernel_rfl) (fun _ _ _ h => h) (yieldsSoIn_of (by kernel_rfl) ?_ (fun _ => rfl)) q0 ?_; rotate_left; focus (intro wq hw; have kq := KC.out wq hw; clear hw; go_simp; try (with_reducible rfl))
            refine wpHeldIn_take (i := 23) (v := ?_) (plain_of (by kernel_rfl)) rfl (by kernel_rfl) (fun _ _ _ h => h) (yieldsSoIn_of (by kernel_rfl) ?_ (fun _ => rfl)) q0 ?_; rotate_left; focus (intro wq hw; clear hw; go_simp; try (with_reducible rfl))
            refine wpHeldIn_take (i := 24) (v := ?_) (plain_of (by kernel_rfl)) rfl (by kernel_rfl) (fun _ _ _ h => h) (yieldsSoIn_of (by kernel_rfl) ?_ (fun _ => rfl)) q0 ?_; rotate_left; focus (intro wq hw; clear hw; go_simp; try (with_reducible rfl))
            refine wpHeldIn_take (i := 25) (v := ?_) (plain_of (by kernel_rfl)) rfl (by kernel_rfl) (fun _ _ _ h => h) (yieldsSoIn_of (by kernel_rfl) ?_ (fun _ => rfl)) q0 ?_; rotate_left; focus (intro wq hw; clear hw; go_simp; try (with_reducible rfl))
            refine wpHeldIn_done (by kernel_rfl) ?_ _
            go_simp
            refine noPanic_of ?_
            clear KC q0
            go_wp2_with fail
            go_returns
            exact ⟨by rw [HR1.out]; rfl, hBr.drew⟩
      · have hin' : inB l[k] 0 ((ts.length : Int) - 1) = false := by simpa using hin
        rw [hin'] at HW1 HS1
        have HR1 : Hid (LT l.length = false) := HN1 (by rw [HS1]; rfl)
        generalize l[k] = x at *
        clear HS1 HL1 HN1 hcl hgk
        go_wp2_with fail
        have q0 : Below wr.heap.size wr.drew wr.drew := Below.refl _ _
        have KC : Hid (∀ V', Below wr.heap.size wr.drew V' → (V'.cell? ⟨bl, ol + k, none⟩ = some (.int .i64 x) ∧ V'.cell? ⟨w.heap.size, 9, none⟩ = some (.slice A ts.length c))) := fun V' h =>
          have hk : ∀ (bb o : Nat) (u : Value), bb < wr.heap.size → wr.cell? ⟨bb, o, none⟩ = some u → V'.cell? ⟨bb, o, none⟩ = some u := fun bb o u h1 h2 => (h.cell (p := ⟨bb, o, none⟩) h1).trans h2
          ⟨hk _ _ _ hbr c0, hk _ _ _ bT1.lt (bT1.cell 9 rfl)⟩
        refine (wpIn_wide (n := 4)).1 ?_
        refine wpIn_mono (Q := noPanic _) ?_ noPanic_le
        refine wpIn_region_held (fun V' => Below wr.heap.size wr.drew V') 40 hmo ?_
        refine wpHeldIn_take (i := 0) (v := ?_) (plain_of (by kernel_rfl)) rfl (by kernel_rfl) (fun _ _ _ h => h) (yieldsSoIn_of (by kernel_rfl) ?_ (fun _ => rfl)) q0 ?_; rotate_left; focus (intro wq hw; clear hw; go_simp; try (with_reducible rfl))
        refine wpHeldIn_take (i := 1) (v := ?_) (plain_of (by kernel_rfl)) rfl (by kernel_rfl) (fun _ _ _ h => h) (yieldsSoIn_of (by kernel_rfl) ?_ (fun _ => rfl)) q0 ?_; rotate_left; focus (intro wq hw; clear hw; go_simp; try (with_reducible rfl))
        refine wpHeldIn_take (i := 2) (v := ?_) (plain_of (by kernel_rfl)) rfl (by kernel_rfl) (fun _ _ _ h => h) (yieldsSoIn_of (by kernel_rfl) ?_ (fun _ => rfl)) q0 ?_; rotate_left; focus (intro wq hw; clear hw; go_simp; try (with_reducible rfl))
        refine wpHeldIn_take (i := 3) (v := ?_) (plain_of (by kernel_rfl)) rfl (by kernel_rfl) (fun _ _ _ h => h) (yieldsSoIn_of (by kernel_rfl) ?_ (fun _ => rfl)) q0 ?_; rotate_left; focus (intro wq hw; have kq := KC.out wq hw; clear hw; go_simp; try (with_reducible rfl))
        refine wpHeldIn_take (i := 4) (v := ?_) (plain_of (by kernel_rfl)) rfl (by kernel_rfl) (fun _ _ _ h => h) (yieldsSoIn_of (by kernel_rfl) ?_ (fun _ => rfl)) q0 ?_; rotate_left; focus (intro wq hw; clear hw; go_simp; try (with_reducible rfl))
        refine wpHeldIn_take (i := 5) (v := ?_) (plain_of (by kernel_rfl)) rfl (by kernel_rfl) (fun _ _ _ h => h) (yieldsSoIn_of (by kernel_rfl) ?_ (fun _ => rfl)) q0 ?_; rotate_left; focus (intro wq hw; have kq := KC.out wq hw; clear hw; go_simp; try (with_reducible rfl))
        refine wpHeldIn_take (i := 6) (v := ?_) (plain_of (by kernel_rfl)) rfl (by kernel_rfl) (fun _ _ _ h => h) (yieldsSoIn_of (by kernel_rfl) ?_ (fun _ => rfl)) q0 ?_; rotate_left; focus (intro wq hw; clear hw; go_simp; try (with_reducible rfl))
        refine wpHeldIn_take (i := 7) (v := ?_) (plain_of (by kernel_rfl)) rfl (by kernel_rfl) (fun _ _ _ h => h) (yieldsSoIn_of (by kernel_rfl) ?_ (fun _ => rfl)) q0 ?_; rotate_left; focus (intro wq hw; clear hw; go_simp; try (with_reducible rfl))
        refine wpHeldIn_take (i := 8) (v := .bool false) (plain_of (by kernel_rfl)) rfl (by kernel_rfl) (fun _ _ _ h => h) (yieldsSoIn_call (by kernel_rfl) ?_ rfl (fun _ => trivial) (fun m wq hw => callsIn_wide.2 ((HW1.out _).mono (fun e w' h => ⟨h.1, h.2⟩)))) q0 ?_; focus (intro wq hw; clear hw; go_simp; try (with_reducible rfl))
        refine wpHeldIn_take (i := 9) (v := ?_) (plain_of (by kernel_rfl)) rfl (by kernel_rfl) (fun _ _ _ h => h) (yieldsSoIn_of (by kernel_rfl) ?_ (fun _ => rfl)) q0 ?_; rotate_left; focus (intro wq hw; clear hw; go_simp; try (with_reducible rfl))
        refine wpHeldIn_take (i := 10) (v := ?_) (plain_of (by kernel_rfl)) rfl (by kernel_rfl) (fun _ _ _ h => h) (yieldsSoIn_of (by kernel_rfl) ?_ (fun _ => rfl)) q0 ?_; rotate_left; focus (intro wq hw; clear hw; go_simp; try (with_reducible rfl))
        refine wpHeldIn_take (i := 11) (plain_of (by kernel_rfl)) rfl (by kernel_rfl) (fun _ _ _ h => h) (yieldsSoIn_skip (by kernel_rfl) (fun _ => trivial)) q0 ?_
        refine wpHeldIn_take (i := 12) (plain_of (by kernel_rfl)) rfl (by kernel_rfl) (fun _ _ _ h => h) (yieldsSoIn_skip (by kernel_rfl) (fun _ => trivial)) q0 ?_
        refine wpHeldIn_take (i := 13) (plain_of (by kernel_rfl)) rfl (by kernel_rfl) (fun _ _ _ h => h) (yieldsSoIn_skip (by kernel_rfl) (fun _ => trivial)) q0 ?_
        refine wpHeldIn_take (i := 14) (plain_of (by kernel_rfl)) rfl (by kernel_rfl) (fun _ _ _ h => h) (yieldsSoIn_skip (by kernel_rfl) (fun _ => trivial)) q0 ?_
        refine wpHeldIn_take (i := 15) (plain_of (by kernel_rfl)) rfl (by kernel_rfl) (fun _ _ _ h => h) (yieldsSoIn_skip (by kernel_rfl) (fun _ => trivial)) q0 ?_
        refine wpHeldIn_take (i := 16) (plain_of (by kernel_rfl)) rfl (by kernel_rfl) (fun _ _ _ h => h) (yieldsSoIn_skip (by kernel_rfl) (fun _ => trivial)) q0 ?_
        refine wpHeldIn_take (i := 17) (plain_of (by kernel_rfl)) rfl (by kernel_rfl) (fun _ _ _ h => h) (yieldsSoIn_skip (by kernel_rfl) (fun _ => trivial)) q0 ?_
        refine wpHeldIn_take (i := 18) (plain_of (by kernel_rfl)) rfl (by kernel_rfl) (fun _ _ _ h => h) (yieldsSoIn_skip (by kernel_rfl) (fun _ => trivial)) q0 ?_
        refine wpHeldIn_take (i := 19) (plain_of (by kernel_rfl)) rfl (by kernel_rfl) (fun _ _ _ h => h) (yieldsSoIn_skip (by kernel_rfl) (fun _ => trivial)) q0 ?_
        refine wpHeldIn_take (i := 20) (plain_of (by kernel_rfl)) rfl (by kernel_rfl) (fun _ _ _ h => h) (yieldsSoIn_skip (by kernel_rfl) (fun _ => trivial)) q0 ?_
        refine wpHeldIn_take (i := 21) (plain_of (by kernel_rfl)) rfl (by kernel_rfl) (fun _ _ _ h => h) (yieldsSoIn_skip (by kernel_rfl) (fun _ => trivial)) q0 ?_
        refine wpHeldIn_take (i := 22) (plain_of (by kernel_rfl)) rfl (by kernel_rfl) (fun _ _ _ h => h) (yieldsSoIn_skip (by kernel_rfl) (fun _ => trivial)) q0 ?_
        refine wpHeldIn_take (i := 23) (plain_of (by kernel_rfl)) rfl (by kernel_rfl) (fun _ _ _ h => h) (yieldsSoIn_skip (by kernel_rfl) (fun _ => trivial)) q0 ?_
        refine wpHeldIn_take (i := 24) (plain_of (by kernel_rfl)) rfl (by kernel_rfl) (fun _ _ _ h => h) (yieldsSoIn_skip (by kernel_rfl) (fun _ => trivial)) q0 ?_
        refine wpHeldIn_take (i := 25) (v := ?_) (plain_of (by kernel_rfl)) rfl (by kernel_rfl) (fun _ _ _ h => h) (yieldsSoIn_of (by kernel_rfl) ?_ (fun _ => rfl)) q0 ?_; rotate_left; focus (intro wq hw; clear hw; go_simp; try (with_reducible rfl))
        refine wpHeldIn_done (by kernel_rfl) ?_ _
        go_simp
        refine noPanic_of ?_
        clear KC q0
        go_wp2_with fail
        go_returns
        exact ⟨by rw [HR1.out]; rfl, hBr.drew⟩
    · have ek : k = l.length := by omega
      subst ek
      go_wp2_with fail
      go_returns
      exact ⟨by rw [hat.out]; rfl, hB1.trans (hbw.mono hB1.size)⟩
end Go.Proofs.YtkmacpkjobdffaaGreat
