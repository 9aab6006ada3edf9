/- Trials: whether a gain and a skew are a truth, by the reference. -/
import Derived.Test.YtkmacpkjobdffaaGreatTzB
import Derived.Test.YtkmacpkjobdffaaGreatSke3
import Derived.Test.YtkmacpkjobdffaaGreatTpC
namespace Go.Proofs.YtkmacpkjobdffaaGreat
open Go.RowKit
set_option maxHeartbeats 1000000 in
theorem SeenArea9_any (g a : Int) (hg : -50 ≤ g ∧ g ≤ 50) (ha : 0 ≤ a ∧ a ≤ 9000) (w : World) : Calls Tryz.prog 39 #[.int .i64 a, .int .i64 g] w fun e w' => e = .returned (.int .i64 (Ti.seenV g a)) ∧ w' = w := by
  have h1 : a * g ≤ a * 50 := Int.mul_le_mul_of_nonneg_left hg.2 ha.1
  have h2 : a * (-50) ≤ a * g := Int.mul_le_mul_of_nonneg_left hg.1 ha.1
  obtain ⟨P, hP⟩ : ∃ P, P = a * g := ⟨_, rfl⟩
  rw [← hP] at h1 h2
  have hS : Ti.seenV g a = a + P / 1000 := by
    unfold Ti.seenV
    rw [Int.mul_add, ← hP, Int.tdiv_eq_ediv_of_nonneg (by omega)]
    omega
  obtain ⟨Q, hQ⟩ : ∃ Q, Q = P.tdiv 1000 := ⟨_, rfl⟩
  have hQ2 : (0 ≤ P ∧ Q = P / 1000) ∨ (P < 0 ∧ Q = -((-P) / 1000)) := by
    by_cases h : 0 ≤ P
    · exact .inl ⟨h, by rw [hQ, Int.tdiv_eq_ediv_of_nonneg h]⟩
    · refine .inr ⟨by omega, ?_⟩
      have e : P.tdiv 1000 = -((-P).tdiv 1000) := by rw [Int.neg_tdiv, Int.neg_neg]
      rw [hQ, e, Int.tdiv_eq_ediv_of_nonneg (by omega)]
  have hw1 : IntKind.i64.wrap (a * g) = P := by rw [← hP]; exact IntWalk.i64_in _ (by omega)
  have hw2 : IntKind.i64.wrap (P.tdiv 1000) = Q := by rw [← hQ]; exact IntWalk.i64_in _ (by omega)
  have hw3 : IntKind.i64.wrap (Q * 1000) = Q * 1000 := IntWalk.i64_in _ (by omega)
  have hw4 : IntKind.i64.wrap (Q - 1) = Q - 1 := IntWalk.i64_in _ (by omega)
  have hw5 : IntKind.i64.wrap (a + Q) = a + Q := IntWalk.i64_in _ (by omega)
  have hw6 : IntKind.i64.wrap (a + (Q - 1)) = a + (Q - 1) := IntWalk.i64_in _ (by omega)
  by_cases hlt : P < Q * 1000
  · have hd : decide (P < Q * 1000) = true := decide_eq_true hlt
    have hR : Ti.seenV g a = a + (Q - 1) := by rw [hS]; omega
    rw [hR]
    clear hR hS hQ2 hQ hP h1 h2 hlt
    go_enter Tryz.func39, Tryz.ntmps39
    go_wp2_with fail
    go_returns
    exact ⟨rfl, rfl⟩
  · have hd : decide (P < Q * 1000) = false := decide_eq_false hlt
    have hR : Ti.seenV g a = a + Q := by rw [hS]; omega
    rw [hR]
    clear hR hS hQ2 hQ hP h1 h2 hlt
    go_enter Tryz.func39, Tryz.ntmps39
    go_wp2_with fail
    go_returns
    exact ⟨rfl, rfl⟩
set_option maxHeartbeats 1000000 in
theorem Error9_any (x : Ti.Gk) (a : Int) (hg : -50 ≤ x.1 ∧ x.1 ≤ 50) (hk : -20 ≤ x.2 ∧ x.2 ≤ 20) (ha : 0 ≤ a ∧ a ≤ 9000) (w : World) : Calls Tryz.prog 42 #[.agg #[.int .i64 x.1, .int .i64 x.2], .int .i64 a] w fun e w' => e = .returned (.int .i64 (Ti.errV x a)) ∧ Below w.heap.size w w' := by
  have hs := Ti.seen_bd hg ha
  have HSA : Hid (∀ W, Calls Tryz.prog 39 #[.int .i64 a, .int .i64 x.1] W fun e w' => e = .returned (.int .i64 (Ti.seenV x.1 a)) ∧ w' = W) := fun W => SeenArea9_any _ _ hg ha W
  have HZ1 : Hid (∀ W, Calls Tryz.prog 80 #[.int .i64 (Ti.seenV x.1 a - a)] W fun e w' => e = .returned (.int .i64 (Ti.sizeV (Ti.seenV x.1 a - a))) ∧ w' = W) := fun W => Size9_any _ (by omega) W
  have HZ2 : Hid (∀ W, Calls Tryz.prog 80 #[.int .i64 x.2] W fun e w' => e = .returned (.int .i64 (Ti.sizeV x.2)) ∧ w' = W) := fun W => Size9_any _ (by omega) W
  have hE : Ti.errV x a = Ti.sizeV (Ti.seenV x.1 a - a) + Ti.sizeV x.2 := rfl
  have b1 : 0 ≤ Ti.sizeV (Ti.seenV x.1 a - a) ∧ Ti.sizeV (Ti.seenV x.1 a - a) ≤ 20000 := by unfold Ti.sizeV; omega
  have b2 : 0 ≤ Ti.sizeV x.2 ∧ Ti.sizeV x.2 ≤ 20000 := by unfold Ti.sizeV; omega
  rw [hE]
  clear hE
  obtain ⟨g, k⟩ := x
  dsimp only at *
  generalize Ti.sizeV (Ti.seenV g a - a) = Z1 at *
  generalize Ti.sizeV k = Z2 at *
  have hw1 : IntKind.i64.wrap (Ti.seenV g a - a) = Ti.seenV g a - a := IntWalk.i64_in _ (by omega)
  have hw2 : IntKind.i64.wrap (Z1 + Z2) = Z1 + Z2 := IntWalk.i64_in _ (by omega)
  generalize Ti.seenV g a = SV at *
  have hmo : Tryz.prog.follows .mixedOrders = true := by kernel_rfl
  go_enter Tryz.func42, Tryz.ntmps42
  go_wp2_with fail
  have bX := BoxS.new w 56 #[.int .i64 g, .int .i64 k]
  have hB : Below w.heap.size w (w.alloc (.cells #[.int .i64 g, .int .i64 k] 56)) := (Below.refl _ _).alloc (Nat.le_refl _) _
  generalize World.alloc w _ = w1 at *
  have q0 : Below w1.heap.size w1.drew w1.drew := Below.refl _ _
  have KC : Hid (∀ V', Below w1.heap.size w1.drew V' → (V'.cell? ⟨w.heap.size, 0, none⟩ = some (.int .i64 g) ∧ V'.cell? ⟨w.heap.size, 1, none⟩ = some (.int .i64 k))) := fun V' h =>
    ⟨(h.cell (p := ⟨w.heap.size, 0, none⟩) bX.lt).trans (bX.cell 0 rfl), (h.cell (p := ⟨w.heap.size, 1, none⟩) bX.lt).trans (bX.cell 1 rfl)⟩
  refine (wpIn_wide (n := 4)).1 ?_
  refine wpIn_mono (Q := noPanic _) ?_ noPanic_le
  refine wpIn_region_held (fun V' => Below w1.heap.size w1.drew V') 40 hmo ?_
  refine wpHeldIn_take (i := 0) (v := ?_) (plain_of (by kernel_rfl)) rfl (by kernel_rfl) (fun _ _ _ h => h) (yieldsSoIn_of (by kernel_rfl) ?_ (fun _ => rfl)) q0 ?_; rotate_left; focus (intro wq hw; clear hw; go_simp; try (with_reducible rfl))
  refine wpHeldIn_take (i := 1) (v := ?_) (plain_of (by kernel_rfl)) rfl (by kernel_rfl) (fun _ _ _ h => h) (yieldsSoIn_of (by kernel_rfl) ?_ (fun _ => rfl)) q0 ?_; rotate_left; focus (intro wq hw; clear hw; go_simp; try (with_reducible rfl))
  refine wpHeldIn_take (i := 2) (v := ?_) (plain_of (by kernel_rfl)) rfl (by kernel_rfl) (fun _ _ _ h => h) (yieldsSoIn_of (by kernel_rfl) ?_ (fun _ => rfl)) q0 ?_; rotate_left; focus (intro wq hw; have kq := KC.out wq hw; clear hw; go_simp; try (with_reducible rfl))
  refine wpHeldIn_take (i := 3) (v := .int .i64 SV) (plain_of (by kernel_rfl)) rfl (by kernel_rfl) (fun _ _ _ h => h) (yieldsSoIn_call (by kernel_rfl) ?_ rfl (fun _ => trivial) (fun m wq hw => callsIn_wide.2 ((HSA.out _).mono (fun e w' h => ⟨h.1, h.2⟩)))) q0 ?_; focus (intro wq hw; clear hw; go_simp; try (with_reducible rfl))
  refine wpHeldIn_take (i := 4) (v := ?_) (plain_of (by kernel_rfl)) rfl (by kernel_rfl) (fun _ _ _ h => h) (yieldsSoIn_of (by kernel_rfl) ?_ (fun _ => rfl)) q0 ?_; rotate_left; focus (intro wq hw; clear hw; go_simp; try (with_reducible rfl))
  refine wpHeldIn_take (i := 5) (v := ?_) (plain_of (by kernel_rfl)) rfl (by kernel_rfl) (fun _ _ _ h => h) (yieldsSoIn_of (by kernel_rfl) ?_ (fun _ => rfl)) q0 ?_; rotate_left; focus (intro wq hw; clear hw; go_simp; try (with_reducible rfl))
  refine wpHeldIn_take (i := 6) (v := .int .i64 Z1) (plain_of (by kernel_rfl)) rfl (by kernel_rfl) (fun _ _ _ h => h) (yieldsSoIn_call (by kernel_rfl) ?_ rfl (fun _ => trivial) (fun m wq hw => callsIn_wide.2 ((HZ1.out _).mono (fun e w' h => ⟨h.1, h.2⟩)))) q0 ?_; focus (intro wq hw; clear hw; go_simp; try (with_reducible rfl))
  refine wpHeldIn_take (i := 7) (v := ?_) (plain_of (by kernel_rfl)) rfl (by kernel_rfl) (fun _ _ _ h => h) (yieldsSoIn_of (by kernel_rfl) ?_ (fun _ => rfl)) q0 ?_; rotate_left; focus (intro wq hw; clear hw; go_simp; try (with_reducible rfl))
  refine wpHeldIn_take (i := 8) (v := ?_) (plain_of (by kernel_rfl)) rfl (by kernel_rfl) (fun _ _ _ h => h) (yieldsSoIn_of (by kernel_rfl) ?_ (fun _ => rfl)) q0 ?_; rotate_left; focus (intro wq hw; have kq := KC.out wq hw; clear hw; go_simp; try (with_reducible rfl))
  refine wpHeldIn_take (i := 9) (v := .int .i64 Z2) (plain_of (by kernel_rfl)) rfl (by kernel_rfl) (fun _ _ _ h => h) (yieldsSoIn_call (by kernel_rfl) ?_ rfl (fun _ => trivial) (fun m wq hw => callsIn_wide.2 ((HZ2.out _).mono (fun e w' h => ⟨h.1, h.2⟩)))) q0 ?_; focus (intro wq hw; clear hw; go_simp; try (with_reducible rfl))
  refine wpHeldIn_take (i := 10) (v := ?_) (plain_of (by kernel_rfl)) rfl (by kernel_rfl) (fun _ _ _ h => h) (yieldsSoIn_of (by kernel_rfl) ?_ (fun _ => rfl)) q0 ?_; rotate_left; focus (intro wq hw; clear hw; go_simp; try (with_reducible rfl))
  refine wpHeldIn_take (i := 11) (v := ?_) (plain_of (by kernel_rfl)) rfl (by kernel_rfl) (fun _ _ _ h => h) (yieldsSoIn_of (by kernel_rfl) ?_ (fun _ => rfl)) q0 ?_; rotate_left; focus (intro wq hw; clear hw; go_simp; try (with_reducible rfl))
  refine wpHeldIn_done (by kernel_rfl) ?_ _
  go_simp
  refine noPanic_of ?_
  go_wp2_with fail
  go_returns
  exact ⟨rfl, hB.drew⟩
end Go.Proofs.YtkmacpkjobdffaaGreat
namespace Go.Proofs.YtkmacpkjobdffaaGreat
open Go.RowKit
set_option maxHeartbeats 1000000 in
theorem in9_any (v : Value) (xs : List Int) (n : Int) (w : World) (hx : Ints w w.heap.size v xs) (hl : xs.length ≤ 1000000000) :
    Calls Tryz.prog 59 #[v, .int .i64 n] w fun e w' => e = .returned (.bool (decide (n ∈ xs))) ∧ w' = w := by
  have HI := Lib.hid (In_any v xs n w hx hl)
  clear hx
  generalize decide (n ∈ xs) = b at *
  go_enter Tryz.func59, Tryz.ntmps59
  go_wp2_with fail
  refine (HI.out).mono ?_
  rintro e wq ⟨rfl, hq⟩
  have hq := hq.symm
  subst hq
  go_wp2_with fail
  go_returns
  exact ⟨rfl, rfl⟩
set_option maxHeartbeats 1000000 in
theorem of9_any (full read slip skew circ glo ghi wrn a : Int) (w : World) :
    Calls Tryz.prog 104 #[.agg #[.int .i64 full, .int .i64 read, .int .i64 slip, .int .i64 skew, .int .i64 circ, .int .i64 glo, .int .i64 ghi, .int .i64 wrn], .int .i64 a] w fun e w' => e = .returned (.agg #[.int .i64 full, .int .i64 read, .int .i64 slip, .int .i64 skew, .int .i64 circ, .int .i64 a, .int .i64 a, .int .i64 wrn]) ∧ Below w.heap.size w w' := by
  go_enter Tryz.func104, Tryz.ntmps104
  go_wp2_with fail
  go_returns
  exact ⟨rfl, by (repeat' (first | (with_reducible exact Below.refl _ _) | (with_reducible assumption) | (with_reducible refine Below.alloc ?_ ?_ _) | (with_reducible refine Below.drew ?_) | (with_reducible refine Below.setCell ?_ ?_ _) | go_size | (exact (by simp)) | omega))⟩
namespace Ti
def isTo (t : Tri) (x : Gk) : Nat → Bool
  | 0 => true
  | k + 1 => isTo t x k && tstB t x (tstAt t.ts k)
def isT (t : Tri) (x : Gk) : Bool := (inB x.1 (-t.gain) t.gain && inB x.2 (-t.d.skew) t.d.skew) && isTo t x t.ts.length
theorem isTo_no {t : Tri} {x : Gk} {k : Nat} (h : tstB t x (tstAt t.ts k) = false) : ∀ n, k < n → isTo t x n = false
  | n + 1, hk => by
    show (isTo t x n && tstB t x (tstAt t.ts n)) = false
    by_cases e : k = n
    · subst e; rw [h, Bool.and_false]
    · rw [isTo_no h n (by omega), Bool.false_and]
theorem isTo_iff {t : Tri} {x : Gk} : ∀ n, isTo t x n = true ↔ ∀ k, k < n → tstB t x (tstAt t.ts k) = true
  | 0 => by simp [isTo]
  | n + 1 => by
    show (isTo t x n && tstB t x (tstAt t.ts n)) = true ↔ _
    rw [Bool.and_eq_true, isTo_iff n]
    constructor
    · rintro ⟨h1, h2⟩ k hk
      by_cases e : k = n
      · subst e; exact h2
      · exact h1 k (by omega)
    · exact fun h => ⟨fun k hk => h k (by omega), h n (by omega)⟩
theorem dsk_cases (t : Tri) (hk : 0 ≤ t.d.skew ∧ t.d.skew ≤ 20) (a : Int) (ws : List Wh.Wk) : (Wh.casesL (dsk t a ws)).length ≤ 90000 := by
  unfold Wh.casesL
  rw [Wh.casesTo_len]
  have h1 : Wh.na (dsk t a ws) = 1 := by
    show (a - a + 1).toNat = 1
    rw [Int.sub_self]
    rfl
  have h2 : Wh.nb (dsk t a ws) ≤ 41 := by
    show (2 * t.d.skew + 1).toNat ≤ 41
    omega
  rw [h1]
  omega
theorem tst_skews (t : Tri) (x : Gk) (y : Tst) : tstB t x y = (decide (Wh.spE (dsk t (seenV x.1 y.1) y.2) = 0) && decide (x.2 ∈ Wh.skewsV (dsk t (seenV x.1 y.1) y.2))) := by
  unfold tstB
  rw [mem_skews]
  unfold skewB
  cases decide (Wh.spE (dsk t (seenV x.1 y.1) y.2) = 0) <;> simp
end Ti
set_option maxRecDepth 100000 in
set_option maxHeartbeats 8000000 in
theorem allows9_any (t : Ti.Tri) (x : Ti.Tst) (k : Ti.Gk) (A : Option Addr) (c : Nat) (A' : Option Addr) (c' : Nat) (w : World) (hk : -50 ≤ k.1 ∧ k.1 ≤ 50) (hx : 0 ≤ x.1 ∧ x.1 ≤ 9000) (hsk : 0 ≤ t.d.skew ∧ t.d.skew ≤ 20) (hl : x.2.length ≤ 1000000000) (hw : Wks w w.heap.size A' x.2) :
    Calls Tryz.prog 79 #[.agg (tiV t A c), .agg #[.int .i64 x.1, .slice A' x.2.length c'], .agg #[.int .i64 k.1, .int .i64 k.2]] w fun e w' => e = .returned (.bool (Ti.tstB t k x)) ∧ Below w.heap.size w w' := by
  have HSA : Hid (∀ W, Calls Tryz.prog 39 #[.int .i64 x.1, .int .i64 k.1] W fun e w' => e = .returned (.int .i64 (Ti.seenV k.1 x.1)) ∧ w' = W) := fun W => SeenArea9_any _ _ hk hx W
  have HSK : Hid (∀ W, Below w.heap.size w W → Calls Tryz.prog 103 #[.agg #[.int .i64 t.d.full, .int .i64 t.d.read, .int .i64 t.d.slip, .int .i64 t.d.skew, .int .i64 t.d.circ, .int .i64 (Ti.seenV k.1 x.1), .int .i64 (Ti.seenV k.1 x.1), .int .i64 t.d.wr], .slice A' x.2.length c'] W (IntsEPost (Wh.skewsV (Ti.dsk t (Ti.seenV k.1 x.1) x.2)) (Wh.spE (Ti.dsk t (Ti.seenV k.1 x.1) x.2)) W)) := fun W hW =>
    Skews3_any (Ti.dsk t (Ti.seenV k.1 x.1) x.2) A' c' W hl (fun _ => Ti.dsk_cases t hsk _ _) ((hw.keep hW).wider hW.size)
  have hSL : (Wh.skewsV (Ti.dsk t (Ti.seenV k.1 x.1) x.2)).length ≤ 41 := Ti.skews_len _
  have hR := Ti.tst_skews t k x
  have HIN : Hid (∀ v W, Ints W W.heap.size v (Wh.skewsV (Ti.dsk t (Ti.seenV k.1 x.1) x.2)) → Calls Tryz.prog 59 #[v, .int .i64 k.2] W fun e w' => e = .returned (.bool (decide (k.2 ∈ Wh.skewsV (Ti.dsk t (Ti.seenV k.1 x.1) x.2)))) ∧ w' = W) := fun v W h => in9_any v _ _ W h (by omega)
  have HOF : Hid (∀ W, Calls Tryz.prog 104 #[.agg #[.int .i64 t.d.full, .int .i64 t.d.read, .int .i64 t.d.slip, .int .i64 t.d.skew, .int .i64 t.d.circ, .int .i64 t.d.glo, .int .i64 t.d.ghi, .int .i64 t.d.wr], .int .i64 (Ti.seenV k.1 x.1)] W fun e w' => e = .returned (.agg #[.int .i64 t.d.full, .int .i64 t.d.read, .int .i64 t.d.slip, .int .i64 t.d.skew, .int .i64 t.d.circ, .int .i64 (Ti.seenV k.1 x.1), .int .i64 (Ti.seenV k.1 x.1), .int .i64 t.d.wr]) ∧ Below W.heap.size W w') := fun W => of9_any _ _ _ _ _ _ _ _ _ W
  rw [hR]
  unfold IntsEPost at HSK
  clear hR hw hSL
  generalize decide (k.2 ∈ Wh.skewsV (Ti.dsk t (Ti.seenV k.1 x.1) x.2)) = MB at *
  generalize Wh.skewsV (Ti.dsk t (Ti.seenV k.1 x.1) x.2) = SL at *
  generalize Wh.spE (Ti.dsk t (Ti.seenV k.1 x.1) x.2) = SE at *
  obtain ⟨R, hRd⟩ : ∃ R, R = (decide (SE = 0) && MB) := ⟨_, rfl⟩
  rw [← hRd]
  obtain ⟨xa, xw⟩ := x
  obtain ⟨kg, ks⟩ := k
  dsimp only at *
  generalize Ti.seenV kg xa = SA at *
  obtain ⟨d, gain, ts⟩ := t
  obtain ⟨full, read, slip, skew, circ, glo, ghi, wrn, dws⟩ := d
  unfold tiV at *
  dsimp only at *
  have hmo : Tryz.prog.follows .mixedOrders = true := by kernel_rfl
  go_enter Tryz.func79, Tryz.ntmps79
  go_wp2_with fail
  have bT1 := (((BoxS.new w 28 #[.int .i64 full, .int .i64 read, .int .i64 slip, .int .i64 skew, .int .i64 circ, .int .i64 glo, .int .i64 ghi, .int .i64 wrn, .int .i64 gain, .slice A ts.length c]).alloc (.cells #[.int .i64 xa, .slice A' xw.length c'] 78)).alloc (.cells #[.int .i64 kg, .int .i64 ks] 56))
  have bX1 := ((BoxS.new (World.alloc w (.cells #[.int .i64 full, .int .i64 read, .int .i64 slip, .int .i64 skew, .int .i64 circ, .int .i64 glo, .int .i64 ghi, .int .i64 wrn, .int .i64 gain, .slice A ts.length c] 28)) 78 #[.int .i64 xa, .slice A' xw.length c']).alloc (.cells #[.int .i64 kg, .int .i64 ks] 56))
  have bK1 := (BoxS.new (World.alloc (World.alloc w (.cells #[.int .i64 full, .int .i64 read, .int .i64 slip, .int .i64 skew, .int .i64 circ, .int .i64 glo, .int .i64 ghi, .int .i64 wrn, .int .i64 gain, .slice A ts.length c] 28)) (.cells #[.int .i64 xa, .slice A' xw.length c'] 78)) 56 #[.int .i64 kg, .int .i64 ks])
  have hB1 : Below w.heap.size w (World.alloc (World.alloc (World.alloc w (.cells #[.int .i64 full, .int .i64 read, .int .i64 slip, .int .i64 skew, .int .i64 circ, .int .i64 glo, .int .i64 ghi, .int .i64 wrn, .int .i64 gain, .slice A ts.length c] 28)) (.cells #[.int .i64 xa, .slice A' xw.length c'] 78)) (.cells #[.int .i64 kg, .int .i64 ks] 56)) := by (repeat' (first | (with_reducible exact Below.refl _ _) | (with_reducible assumption) | (with_reducible refine Below.alloc ?_ ?_ _) | (with_reducible refine Below.drew ?_) | (with_reducible refine Below.setCell ?_ ?_ _) | go_size | (exact (by simp)) | omega))
  simp only [World.size_alloc] at bX1 bK1
  generalize World.alloc (World.alloc (World.alloc w _) _) _ = w1 at *
  have q0 : Below w1.heap.size w1.drew w1.drew := Below.refl _ _
  have KC : Hid (∀ V', Below w1.heap.size w1.drew V' → (V'.cell? ⟨w.heap.size, 0, none⟩ = some (.int .i64 full) ∧ V'.cell? ⟨w.heap.size, 1, none⟩ = some (.int .i64 read) ∧ V'.cell? ⟨w.heap.size, 2, none⟩ = some (.int .i64 slip) ∧ V'.cell? ⟨w.heap.size, 3, none⟩ = some (.int .i64 skew) ∧ V'.cell? ⟨w.heap.size, 4, none⟩ = some (.int .i64 circ) ∧ V'.cell? ⟨w.heap.size, 5, none⟩ = some (.int .i64 glo) ∧ V'.cell? ⟨w.heap.size, 6, none⟩ = some (.int .i64 ghi) ∧ V'.cell? ⟨w.heap.size, 7, none⟩ = some (.int .i64 wrn) ∧ V'.cell? ⟨w.heap.size, 8, none⟩ = some (.int .i64 gain) ∧ V'.cell? ⟨w.heap.size, 9, none⟩ = some (.slice A ts.length c) ∧ V'.cell? ⟨w.heap.size + 1, 0, none⟩ = some (.int .i64 xa) ∧ V'.cell? ⟨w.heap.size + 1, 1, none⟩ = some (.slice A' xw.length c') ∧ V'.cell? ⟨w.heap.size + 1 + 1, 0, none⟩ = some (.int .i64 kg) ∧ V'.cell? ⟨w.heap.size + 1 + 1, 1, none⟩ = some (.int .i64 ks))) := fun V' h =>
    have hk : ∀ (bb o : Nat) (u : Value), bb < w1.heap.size → w1.cell? ⟨bb, o, none⟩ = some u → V'.cell? ⟨bb, o, none⟩ = some u := fun bb o u h1 h2 => (h.cell (p := ⟨bb, o, none⟩) h1).trans h2
    ⟨hk _ _ _ bT1.lt (bT1.cell 0 rfl), hk _ _ _ bT1.lt (bT1.cell 1 rfl), hk _ _ _ bT1.lt (bT1.cell 2 rfl), hk _ _ _ bT1.lt (bT1.cell 3 rfl), hk _ _ _ bT1.lt (bT1.cell 4 rfl), hk _ _ _ bT1.lt (bT1.cell 5 rfl), hk _ _ _ bT1.lt (bT1.cell 6 rfl), hk _ _ _ bT1.lt (bT1.cell 7 rfl), hk _ _ _ bT1.lt (bT1.cell 8 rfl), hk _ _ _ bT1.lt (bT1.cell 9 rfl), hk _ _ _ bX1.lt (bX1.cell 0 rfl), hk _ _ _ bX1.lt (bX1.cell 1 rfl), hk _ _ _ bK1.lt (bK1.cell 0 rfl), hk _ _ _ bK1.lt (bK1.cell 1 rfl)⟩
  refine (wpIn_wide (n := 4)).1 ?_
  refine wpIn_mono (Q := noPanic _) ?_ noPanic_le
  refine wpIn_region_held (fun V' => Below w1.heap.size w1.drew V') 40 hmo ?_
  refine wpHeldIn_take (i := 0) (v := ?_) (plain_of (by kernel_rfl)) rfl (by kernel_rfl) (fun _ _ _ h => h) (yieldsSoIn_of (by kernel_rfl) ?_ (fun _ => rfl)) q0 ?_; rotate_left; focus (intro wq hw; clear hw; go_simp; try (with_reducible rfl))
  refine wpHeldIn_take (i := 1) (v := ?_) (plain_of (by kernel_rfl)) rfl (by kernel_rfl) (fun _ _ _ h => h) (yieldsSoIn_of (by kernel_rfl) ?_ (fun _ => rfl)) q0 ?_; rotate_left; focus (intro wq hw; have kq := KC.out wq hw; clear hw; go_simp; try (with_reducible rfl))
  refine wpHeldIn_take (i := 2) (v := ?_) (plain_of (by kernel_rfl)) rfl (by kernel_rfl) (fun _ _ _ h => h) (yieldsSoIn_of (by kernel_rfl) ?_ (fun _ => rfl)) q0 ?_; rotate_left; focus (intro wq hw; clear hw; go_simp; try (with_reducible rfl))
  refine wpHeldIn_take (i := 3) (v := ?_) (plain_of (by kernel_rfl)) rfl (by kernel_rfl) (fun _ _ _ h => h) (yieldsSoIn_of (by kernel_rfl) ?_ (fun _ => rfl)) q0 ?_; rotate_left; focus (intro wq hw; have kq := KC.out wq hw; clear hw; go_simp; try (with_reducible rfl))
  refine wpHeldIn_take (i := 4) (v := ?_) (plain_of (by kernel_rfl)) rfl (by kernel_rfl) (fun _ _ _ h => h) (yieldsSoIn_of (by kernel_rfl) ?_ (fun _ => rfl)) q0 ?_; rotate_left; focus (intro wq hw; clear hw; go_simp; try (with_reducible rfl))
  refine wpHeldIn_take (i := 5) (v := ?_) (plain_of (by kernel_rfl)) rfl (by kernel_rfl) (fun _ _ _ h => h) (yieldsSoIn_of (by kernel_rfl) ?_ (fun _ => rfl)) q0 ?_; rotate_left; focus (intro wq hw; have kq := KC.out wq hw; clear hw; go_simp; try (with_reducible rfl))
  refine wpHeldIn_take (i := 6) (v := .int .i64 SA) (plain_of (by kernel_rfl)) rfl (by kernel_rfl) (fun _ _ _ h => h) (yieldsSoIn_call (by kernel_rfl) ?_ rfl (fun _ => trivial) (fun m wq hw => callsIn_wide.2 ((HSA.out _).mono (fun e w' h => ⟨h.1, h.2⟩)))) q0 ?_; focus (intro wq hw; clear hw; go_simp; try (with_reducible rfl))
  refine wpHeldIn_take (i := 8) (v := ?_) (plain_of (by kernel_rfl)) rfl (by kernel_rfl) (fun _ _ _ h => h) (yieldsSoIn_of (by kernel_rfl) ?_ (fun _ => rfl)) q0 ?_; rotate_left; focus (intro wq hw; clear hw; go_simp; try (with_reducible rfl))
  refine wpHeldIn_take (i := 9) (v := ?_) (plain_of (by kernel_rfl)) rfl (by kernel_rfl) (fun _ _ _ h => h) (yieldsSoIn_of (by kernel_rfl) ?_ (fun _ => rfl)) q0 ?_; rotate_left; focus (intro wq hw; have kq := KC.out wq hw; clear hw; go_simp; try (with_reducible rfl))
  refine wpHeldIn_one (i := 7) (by kernel_rfl) (by kernel_rfl) rfl (by kernel_rfl) (fun K1 hK1 => ?_)
  go_simp
  refine ⟨trivial, (callsIn_wide.2 (HOF.out _)).mono ?_⟩
  rintro e wa ⟨rfl, ha⟩
  have q1 : Below w1.heap.size w1.drew wa := ha
  refine hK1 _ _ q1 ?_
  refine wpHeldIn_one (i := 10) (by kernel_rfl) (by kernel_rfl) rfl (by kernel_rfl) (fun K2 hK2 => ?_)
  go_simp
  refine ⟨trivial, (callsIn_wide.2 (HSK.out _ (hB1.drew.trans (q1.mono hB1.size)))).mono ?_⟩
  rintro e w2 ⟨v, rfl, hv, hb⟩
  have q2 : Below w1.heap.size w1.drew w2 := q1.trans (hb.mono q1.size)
  refine hK2 _ _ q2 ?_
  refine wpHeldIn_take (i := 11) (v := ?_) (plain_of (by kernel_rfl)) rfl (by kernel_rfl) (fun _ _ _ h => h) (yieldsSoIn_of (by kernel_rfl) ?_ (fun _ => rfl)) q2 ?_; rotate_left; focus (intro wq hw; clear hw; go_simp; try (with_reducible rfl))
  refine wpHeldIn_take (i := 12) (v := ?_) (plain_of (by kernel_rfl)) rfl (by kernel_rfl) (fun _ _ _ h => h) (yieldsSoIn_of (by kernel_rfl) ?_ (fun _ => rfl)) q2 ?_; rotate_left; focus (intro wq hw; clear hw; go_simp; try (with_reducible rfl))
  refine wpHeldIn_take (i := 13) (v := ?_) (plain_of (by kernel_rfl)) rfl (by kernel_rfl) (fun _ _ _ h => h) (yieldsSoIn_of (by kernel_rfl) ?_ (fun _ => rfl)) q2 ?_; rotate_left; focus (intro wq hw; clear hw; go_simp; try (with_reducible rfl))
  refine wpHeldIn_take (i := 14) (v := ?_) (plain_of (by kernel_rfl)) rfl (by kernel_rfl) (fun _ _ _ h => h) (yieldsSoIn_of (by kernel_rfl) ?_ (fun _ => rfl)) q2 ?_; rotate_left; focus (intro wq hw; clear hw; go_simp; try (with_reducible rfl))
  refine wpHeldIn_take (i := 15) (v := ?_) (plain_of (by kernel_rfl)) rfl (by kernel_rfl) (fun _ _ _ h => h) (yieldsSoIn_of (by kernel_rfl) ?_ (fun _ => rfl)) q2 ?_; rotate_left; focus (intro wq hw; clear hw; go_simp; try (with_reducible rfl))
  refine wpHeldIn_done (by kernel_rfl) ?_ _
  go_simp
  refine noPanic_of ?_
  have hb2 : Below w1.heap.size w1 w2 := (Below.refl _ _).drew.trans q2
  have bK2 := bK1.below hb2
  have hB2 := hB1.trans (hb2.mono hB1.size)
  have HV := Lib.hid hv.out
  clear q0 KC q1 q2 ha hb hv bT1 bX1 bK1 hB1 hb2
  obtain ⟨AV, cV, rfl⟩ := ints_form HV.out
  have kK1 := bK2.cell 1 rfl
  have lK := bK2.lt
  by_cases hE : SE = 0
  · subst hE
    have hR : R = MB := by rw [hRd]; simp
    clear hRd
    go_wp2_with fail
    refine (HIN.out _ _ HV.out).mono ?_
    rintro e wq ⟨rfl, hq⟩
    have hq := hq.symm
    subst hq
    go_wp2_with fail
    go_returns
    rw [hR]
    exact ⟨rfl, hB2⟩
  · have hEb : (SE == 0) = false := by simpa using hE
    have hR : R = false := by rw [hRd, decide_eq_false hE, Bool.false_and]
    clear hE hRd
    go_wp2_with fail
    go_returns
    rw [hR]
    exact ⟨rfl, hB2⟩
end Go.Proofs.YtkmacpkjobdffaaGreat
namespace Go.Proofs.YtkmacpkjobdffaaGreat
open Go.RowKit
set_option maxRecDepth 100000 in
set_option maxHeartbeats 8000000 in
theorem IsTruth9_any (t : Ti.Tri) (k : Ti.Gk) (A : Option Addr) (c : Nat) (w : World) (hck : Ti.chkV t = 0) (hl : t.ts.length ≤ 1000000000) (hg : Tsts w w.heap.size A t.ts) :
    Calls Tryz.prog 38 #[.agg (tiV t A c), .agg #[.int .i64 k.1, .int .i64 k.2]] w fun e w' => e = .returned (.bool (Ti.isT t k)) ∧ Below w.heap.size w w' := by
  obtain ⟨hga, hsk, hn6, har⟩ := Ti.chk_ok hck
  have HWI : Hid (∀ n l h W, Calls Tryz.prog 52 #[.int .i64 n, .int .i64 l, .int .i64 h] W fun e w' => e = .returned (.bool (inB n l h)) ∧ w' = W) := fun n l h W => within9_any n l h W
  have HAL : Hid ((-50 ≤ k.1 ∧ k.1 ≤ 50) → ∀ j A' c' W, j < t.ts.length → (Ti.tstAt t.ts j).2.length ≤ 1000000000 → Wks W W.heap.size A' (Ti.tstAt t.ts j).2 → Calls Tryz.prog 79 #[.agg (tiV t A c), .agg #[.int .i64 (Ti.tstAt t.ts j).1, .slice A' (Ti.tstAt t.ts j).2.length c'], .agg #[.int .i64 k.1, .int .i64 k.2]] W fun e w' => e = .returned (.bool (Ti.tstB t k (Ti.tstAt t.ts j))) ∧ Below W.heap.size W w') := fun hk j A' c' W hj hl' hw => allows9_any t _ k A c A' c' W hk (har j hj) hsk hl' hw
  have HI : Hid (Ti.isT t k = ((inB k.1 (-t.gain) t.gain && inB k.2 (-t.d.skew) t.d.skew) && Ti.isTo t k t.ts.length)) := rfl
  have HI0 : Hid (Ti.isTo t k 0 = true) := rfl
  have HIS : Hid (∀ j, Ti.isTo t k (j + 1) = (Ti.isTo t k j && Ti.tstB t k (Ti.tstAt t.ts j))) := fun j => rfl
  have HIN : Hid (∀ j, j < t.ts.length → Ti.tstB t k (Ti.tstAt t.ts j) = false → Ti.isTo t k t.ts.length = false) := fun j hj h => Ti.isTo_no h _ hj
  have HG := Lib.hid hg
  clear hg hck har
  generalize Ti.isT t k = R at *
  generalize Ti.isTo t k = IT at *
  obtain ⟨TB, hTB⟩ : ∃ TB : Nat → Bool, TB = fun j => Ti.tstB t k (Ti.tstAt t.ts j) := ⟨_, rfl⟩
  have eTB : ∀ j, Ti.tstB t k (Ti.tstAt t.ts j) = TB j := fun j => by rw [hTB]
  simp only [eTB] at HAL HIS HIN
  clear hTB eTB
  obtain ⟨kg, ks⟩ := k
  dsimp only at *
  obtain ⟨d, gain, ts⟩ := t
  obtain ⟨full, read, slip, skew, circ, glo, ghi, wrn, dws⟩ := d
  unfold tiV at *
  dsimp only at *
  have hmo : Tryz.prog.follows .mixedOrders = true := by kernel_rfl
  have hw1 : IntKind.i64.wrap (-gain) = -gain := IntWalk.i64_in _ (by omega)
  have hw2 : IntKind.i64.wrap (-skew) = -skew := IntWalk.i64_in _ (by omega)
  have HW1 := Lib.hid (HWI.out kg (-gain) gain)
  have HW2 := Lib.hid (HWI.out ks (-skew) skew)
  go_enter Tryz.func38, Tryz.ntmps38
  go_wp2_with fail
  have bT1 := ((BoxS.new w 28 #[.int .i64 full, .int .i64 read, .int .i64 slip, .int .i64 skew, .int .i64 circ, .int .i64 glo, .int .i64 ghi, .int .i64 wrn, .int .i64 gain, .slice A ts.length c]).alloc (.cells #[.int .i64 kg, .int .i64 ks] 56))
  have bK1 := (BoxS.new (World.alloc w (.cells #[.int .i64 full, .int .i64 read, .int .i64 slip, .int .i64 skew, .int .i64 circ, .int .i64 glo, .int .i64 ghi, .int .i64 wrn, .int .i64 gain, .slice A ts.length c] 28)) 56 #[.int .i64 kg, .int .i64 ks])
  have hB1 : Below w.heap.size w (World.alloc (World.alloc w (.cells #[.int .i64 full, .int .i64 read, .int .i64 slip, .int .i64 skew, .int .i64 circ, .int .i64 glo, .int .i64 ghi, .int .i64 wrn, .int .i64 gain, .slice A ts.length c] 28)) (.cells #[.int .i64 kg, .int .i64 ks] 56)) := by (repeat' (first | (with_reducible exact Below.refl _ _) | (with_reducible assumption) | (with_reducible refine Below.alloc ?_ ?_ _) | (with_reducible refine Below.drew ?_) | (with_reducible refine Below.setCell ?_ ?_ _) | go_size | (exact (by simp)) | omega))
  simp only [World.size_alloc] at bK1
  generalize World.alloc (World.alloc w _) _ = w1 at *
  cases h1 : inB kg (-gain) gain
  · rw [h1] at HW1
    have hR : R = false := by rw [HI.out, h1]; rfl
    clear HI HIS HIN HI0 HAL h1
    have kT0 := bT1.cell 0 rfl
    have kT1 := bT1.cell 1 rfl
    have kT2 := bT1.cell 2 rfl
    have kT3 := bT1.cell 3 rfl
    have kT4 := bT1.cell 4 rfl
    have kT5 := bT1.cell 5 rfl
    have kT6 := bT1.cell 6 rfl
    have kT7 := bT1.cell 7 rfl
    have kT8 := bT1.cell 8 rfl
    have kT9 := bT1.cell 9 rfl
    have lT := bT1.lt
    have kK0 := bK1.cell 0 rfl
    have kK1 := bK1.cell 1 rfl
    have lK := bK1.lt
    go_wp2_with fail
    clear kT0 kT1 kT2 kT3 kT4 kT5 kT6 kT7 kT8 kT9 lT kK0 kK1 lK
    refine (HW1.out _).mono ?_
    rintro e wq ⟨rfl, hq⟩
    have hq := hq.symm
    subst hq
    have kT0 := bT1.cell 0 rfl
    have kT1 := bT1.cell 1 rfl
    have kT2 := bT1.cell 2 rfl
    have kT3 := bT1.cell 3 rfl
    have kT4 := bT1.cell 4 rfl
    have kT5 := bT1.cell 5 rfl
    have kT6 := bT1.cell 6 rfl
    have kT7 := bT1.cell 7 rfl
    have kT8 := bT1.cell 8 rfl
    have kT9 := bT1.cell 9 rfl
    have lT := bT1.lt
    have kK0 := bK1.cell 0 rfl
    have kK1 := bK1.cell 1 rfl
    have lK := bK1.lt
    go_wp2_with fail
    clear kT0 kT1 kT2 kT3 kT4 kT5 kT6 kT7 kT8 kT9 lT kK0 kK1 lK
    go_returns
    rw [hR]
    exact ⟨rfl, hB1⟩
  rw [h1] at HW1
  cases h2 : inB ks (-skew) skew
  · rw [h2] at HW2
    have hR : R = false := by rw [HI.out, h1, h2]; rfl
    clear HI HIS HIN HI0 HAL h1 h2
    have kT0 := bT1.cell 0 rfl
    have kT1 := bT1.cell 1 rfl
    have kT2 := bT1.cell 2 rfl
    have kT3 := bT1.cell 3 rfl
    have kT4 := bT1.cell 4 rfl
    have kT5 := bT1.cell 5 rfl
    have kT6 := bT1.cell 6 rfl
    have kT7 := bT1.cell 7 rfl
    have kT8 := bT1.cell 8 rfl
    have kT9 := bT1.cell 9 rfl
    have lT := bT1.lt
    have kK0 := bK1.cell 0 rfl
    have kK1 := bK1.cell 1 rfl
    have lK := bK1.lt
    go_wp2_with fail
    clear kT0 kT1 kT2 kT3 kT4 kT5 kT6 kT7 kT8 kT9 lT kK0 kK1 lK
    refine (HW1.out _).mono ?_
    rintro e wq ⟨rfl, hq⟩
    have hq := hq.symm
    subst hq
    have kT0 := bT1.cell 0 rfl
    have kT1 := bT1.cell 1 rfl
    have kT2 := bT1.cell 2 rfl
    have kT3 := bT1.cell 3 rfl
    have kT4 := bT1.cell 4 rfl
    have kT5 := bT1.cell 5 rfl
    have kT6 := bT1.cell 6 rfl
    have kT7 := bT1.cell 7 rfl
    have kT8 := bT1.cell 8 rfl
    have kT9 := bT1.cell 9 rfl
    have lT := bT1.lt
    have kK0 := bK1.cell 0 rfl
    have kK1 := bK1.cell 1 rfl
    have lK := bK1.lt
    go_wp2_with fail
    clear kT0 kT1 kT2 kT3 kT4 kT5 kT6 kT7 kT8 kT9 lT kK0 kK1 lK
    refine (HW2.out _).mono ?_
    rintro e wq ⟨rfl, hq⟩
    have hq := hq.symm
    subst hq
    have kT0 := bT1.cell 0 rfl
    have kT1 := bT1.cell 1 rfl
    have kT2 := bT1.cell 2 rfl
    have kT3 := bT1.cell 3 rfl
    have kT4 := bT1.cell 4 rfl
    have kT5 := bT1.cell 5 rfl
    have kT6 := bT1.cell 6 rfl
    have kT7 := bT1.cell 7 rfl
    have kT8 := bT1.cell 8 rfl
    have kT9 := bT1.cell 9 rfl
    have lT := bT1.lt
    have kK0 := bK1.cell 0 rfl
    have kK1 := bK1.cell 1 rfl
    have lK := bK1.lt
    go_wp2_with fail
    clear kT0 kT1 kT2 kT3 kT4 kT5 kT6 kT7 kT8 kT9 lT kK0 kK1 lK
    go_returns
    rw [hR]
    exact ⟨rfl, hB1⟩
  rw [h2] at HW2
  have hkg : -50 ≤ kg ∧ kg ≤ 50 := by have := inB_true.1 h1; omega
  have HAL := Lib.hid (HAL.out hkg)
  have hR : R = IT ts.length := by rw [HI.out, h1, h2]; rfl
  have HR := Lib.hid hR
  clear hR HI h1 h2
  have kT0 := bT1.cell 0 rfl
  have kT1 := bT1.cell 1 rfl
  have kT2 := bT1.cell 2 rfl
  have kT3 := bT1.cell 3 rfl
  have kT4 := bT1.cell 4 rfl
  have kT5 := bT1.cell 5 rfl
  have kT6 := bT1.cell 6 rfl
  have kT7 := bT1.cell 7 rfl
  have kT8 := bT1.cell 8 rfl
  have kT9 := bT1.cell 9 rfl
  have lT := bT1.lt
  have kK0 := bK1.cell 0 rfl
  have kK1 := bK1.cell 1 rfl
  have lK := bK1.lt
  go_wp2_with fail
  clear kT0 kT1 kT2 kT3 kT4 kT5 kT6 kT7 kT8 kT9 lT kK0 kK1 lK
  refine (HW1.out _).mono ?_
  rintro e wq ⟨rfl, hq⟩
  have hq := hq.symm
  subst hq
  have kT0 := bT1.cell 0 rfl
  have kT1 := bT1.cell 1 rfl
  have kT2 := bT1.cell 2 rfl
  have kT3 := bT1.cell 3 rfl
  have kT4 := bT1.cell 4 rfl
  have kT5 := bT1.cell 5 rfl
  have kT6 := bT1.cell 6 rfl
  have kT7 := bT1.cell 7 rfl
  have kT8 := bT1.cell 8 rfl
  have kT9 := bT1.cell 9 rfl
  have lT := bT1.lt
  have kK0 := bK1.cell 0 rfl
  have kK1 := bK1.cell 1 rfl
  have lK := bK1.lt
  go_wp2_with fail
  clear kT0 kT1 kT2 kT3 kT4 kT5 kT6 kT7 kT8 kT9 lT kK0 kK1 lK
  refine (HW2.out _).mono ?_
  rintro e wq ⟨rfl, hq⟩
  have hq := hq.symm
  subst hq
  have kT0 := bT1.cell 0 rfl
  have kT1 := bT1.cell 1 rfl
  have kT2 := bT1.cell 2 rfl
  have kT3 := bT1.cell 3 rfl
  have kT4 := bT1.cell 4 rfl
  have kT5 := bT1.cell 5 rfl
  have kT6 := bT1.cell 6 rfl
  have kT7 := bT1.cell 7 rfl
  have kT8 := bT1.cell 8 rfl
  have kT9 := bT1.cell 9 rfl
  have lT := bT1.lt
  have kK0 := bK1.cell 0 rfl
  have kK1 := bK1.cell 1 rfl
  have lK := bK1.lt
  go_wp2_with fail
  clear kT0 kT1 kT2 kT3 kT4 kT5 kT6 kT7 kT8 kT9 lT kK0 kK1 lK
  go_loopw [5] (fun x5 wr => ∃ j : Nat, (j : Int) ≤ ts.length ∧ x5 = .int .i64 (j : Int) ∧ Below w.heap.size w wr ∧ BoxS wr w.heap.size 28 #[.int .i64 full, .int .i64 read, .int .i64 slip, .int .i64 skew, .int .i64 circ, .int .i64 glo, .int .i64 ghi, .int .i64 wrn, .int .i64 gain, .slice A ts.length c] ∧ BoxS wr (w.heap.size + 1) 56 #[.int .i64 kg, .int .i64 ks] ∧ Hid (IT j = true)) (fun x5 _ => (ts.length - intOf x5).toNat)
  case atStart => exact ⟨0, by omega, rfl, hB1, bT1, bK1, HI0⟩
  case round =>
    clear hB1 bT1 bK1
    obtain ⟨j, hj, rfl, hB1, bT1, bK1, hat⟩ := hrel
    have hj0 := Int.natCast_nonneg j
    by_cases hlt : (j : Int) < ts.length
    ·
      have hjl : j < ts.length := by omega
      have hwj : IntKind.i64.wrap ((j : Int) + 1) = (j : Int) + 1 := IntWalk.i64_in _ (by omega)
      obtain ⟨bt, ot, rfl, hbt, hct⟩ := HG.out (by omega)
      obtain ⟨A', c', x0, x1, hwk, hwl⟩ := hct j _ (tst_at hjl)
      have y0 := (hB1.cell (p := ⟨bt, _, none⟩) hbt).trans x0
      have y1 := (hB1.cell (p := ⟨bt, _, none⟩) hbt).trans x1
      have HAJ := Lib.hid (fun W => HAL.out j A' c' W hjl hwl)
      have HS1 := HIS.out j
      have HN1 := HIN.out j hjl
      clear hct x0 x1
      generalize Ti.tstAt ts j = x at *
      obtain ⟨xa, xw⟩ := x
      dsimp only at *
      have hwk := Lib.hid hwk
      have hbz := hB1.size
      obtain ⟨w1, rfl⟩ : ∃ W, W = wr := ⟨_, rfl⟩
      have kT0 := bT1.cell 0 rfl
      have kT1 := bT1.cell 1 rfl
      have kT2 := bT1.cell 2 rfl
      have kT3 := bT1.cell 3 rfl
      have kT4 := bT1.cell 4 rfl
      have kT5 := bT1.cell 5 rfl
      have kT6 := bT1.cell 6 rfl
      have kT7 := bT1.cell 7 rfl
      have kT8 := bT1.cell 8 rfl
      have kT9 := bT1.cell 9 rfl
      have lT := bT1.lt
      have kK0 := bK1.cell 0 rfl
      have kK1 := bK1.cell 1 rfl
      have lK := bK1.lt
      go_wp2_with fail
      clear kT0 kT1 kT2 kT3 kT4 kT5 kT6 kT7 kT8 kT9 lT kK0 kK1 lK
      have q0 : Below w1.heap.size w1.drew w1.drew := Below.refl _ _
      have KC : Hid (∀ V', Below w1.heap.size w1.drew V' → (V'.cell? ⟨w.heap.size, 0, none⟩ = some (.int .i64 full) ∧ V'.cell? ⟨w.heap.size, 1, none⟩ = some (.int .i64 read) ∧ V'.cell? ⟨w.heap.size, 2, none⟩ = some (.int .i64 slip) ∧ V'.cell? ⟨w.heap.size, 3, none⟩ = some (.int .i64 skew) ∧ V'.cell? ⟨w.heap.size, 4, none⟩ = some (.int .i64 circ) ∧ V'.cell? ⟨w.heap.size, 5, none⟩ = some (.int .i64 glo) ∧ V'.cell? ⟨w.heap.size, 6, none⟩ = some (.int .i64 ghi) ∧ V'.cell? ⟨w.heap.size, 7, none⟩ = some (.int .i64 wrn) ∧ V'.cell? ⟨w.heap.size, 8, none⟩ = some (.int .i64 gain) ∧ V'.cell? ⟨w.heap.size, 9, none⟩ = some (.slice (some ⟨bt, ot, none⟩) ts.length c) ∧ V'.cell? ⟨w.heap.size + 1, 0, none⟩ = some (.int .i64 kg) ∧ V'.cell? ⟨w.heap.size + 1, 1, none⟩ = some (.int .i64 ks) ∧ V'.cell? ⟨bt, ot + j * 2, none⟩ = some (.int .i64 xa) ∧ V'.cell? ⟨bt, ot + j * 2 + 1, none⟩ = some (.slice A' xw.length c'))) := fun V' h =>
        have hk : ∀ (bb o : Nat) (u : Value), bb < w1.heap.size → w1.cell? ⟨bb, o, none⟩ = some u → V'.cell? ⟨bb, o, none⟩ = some u := fun bb o u h1 h2 => (h.cell (p := ⟨bb, o, none⟩) h1).trans h2
        ⟨hk _ _ _ bT1.lt (bT1.cell 0 rfl), hk _ _ _ bT1.lt (bT1.cell 1 rfl), hk _ _ _ bT1.lt (bT1.cell 2 rfl), hk _ _ _ bT1.lt (bT1.cell 3 rfl), hk _ _ _ bT1.lt (bT1.cell 4 rfl), hk _ _ _ bT1.lt (bT1.cell 5 rfl), hk _ _ _ bT1.lt (bT1.cell 6 rfl), hk _ _ _ bT1.lt (bT1.cell 7 rfl), hk _ _ _ bT1.lt (bT1.cell 8 rfl), hk _ _ _ bT1.lt (bT1.cell 9 rfl), hk _ _ _ bK1.lt (bK1.cell 0 rfl), hk _ _ _ bK1.lt (bK1.cell 1 rfl), hk _ _ _ (by omega) y0, hk _ _ _ (by omega) y1⟩
      refine (wpIn_wide (n := 4)).1 ?_
      refine wpIn_mono (Q := noPanic _) ?_ noPanic_le
      refine wpIn_region_held (fun V' => Below w1.heap.size w1.drew V') 40 hmo ?_
      refine wpHeldIn_take (i := 0) (v := ?_) (plain_of (by kernel_rfl)) rfl (by kernel_rfl) (fun _ _ _ h => h) (yieldsSoIn_of (by kernel_rfl) ?_ (fun _ => rfl)) q0 ?_; rotate_left; focus (intro wq hw; have kq := KC.out wq hw; clear hw; go_simp; try (with_reducible rfl))
      refine wpHeldIn_take (i := 1) (v := ?_) (plain_of (by kernel_rfl)) rfl (by kernel_rfl) (fun _ _ _ h => h) (yieldsSoIn_of (by kernel_rfl) ?_ (fun _ => rfl)) q0 ?_; rotate_left; focus (intro wq hw; clear hw; go_simp; try (with_reducible rfl))
      refine wpHeldIn_take (i := 2) (v := ?_) (plain_of (by kernel_rfl)) rfl (by kernel_rfl) (fun _ _ _ h => h) (yieldsSoIn_of (by kernel_rfl) ?_ (fun _ => rfl)) q0 ?_; rotate_left; focus (intro wq hw; have kq := KC.out wq hw; clear hw; go_simp; try (with_reducible rfl))
      refine wpHeldIn_take (i := 3) (v := ?_) (plain_of (by kernel_rfl)) rfl (by kernel_rfl) (fun _ _ _ h => h) (yieldsSoIn_of (by kernel_rfl) ?_ (fun _ => rfl)) q0 ?_; rotate_left; focus (intro wq hw; clear hw; go_simp; try (with_reducible rfl))
      refine wpHeldIn_take (i := 4) (v := ?_) (plain_of (by kernel_rfl)) rfl (by kernel_rfl) (fun _ _ _ h => h) (yieldsSoIn_of (by kernel_rfl) ?_ (fun _ => rfl)) q0 ?_; rotate_left; focus (intro wq hw; clear hw; go_simp; try (with_reducible rfl))
      refine wpHeldIn_take (i := 5) (v := ?_) (plain_of (by kernel_rfl)) rfl (by kernel_rfl) (fun _ _ _ h => h) (yieldsSoIn_of (by kernel_rfl) ?_ (fun _ => rfl)) q0 ?_; rotate_left; focus (intro wq hw; have kq := KC.out wq hw; clear hw; go_simp; try (with_reducible rfl))
      refine wpHeldIn_take (i := 6) (v := ?_) (plain_of (by kernel_rfl)) rfl (by kernel_rfl) (fun _ _ _ h => h) (yieldsSoIn_of (by kernel_rfl) ?_ (fun _ => rfl)) q0 ?_; rotate_left; focus (intro wq hw; have kq := KC.out wq hw; clear hw; go_simp; try (with_reducible rfl))
      refine wpHeldIn_one (i := 7) (by kernel_rfl) (by kernel_rfl) rfl (by kernel_rfl) (fun K1 hK1 => ?_)
      go_simp
      refine ⟨trivial, (callsIn_wide.2 (HAJ.out _ (((hwk.out.keep hB1).wider hbz).keep ((Below.refl _ _).drew) |>.wider (Nat.le_refl _)))).mono ?_⟩
      rintro e w2 ⟨rfl, hb⟩
      have q2 : Below w1.heap.size w1.drew w2 := hb
      refine hK1 _ _ q2 ?_
      refine wpHeldIn_take (i := 8) (v := ?_) (plain_of (by kernel_rfl)) rfl (by kernel_rfl) (fun _ _ _ h => h) (yieldsSoIn_of (by kernel_rfl) ?_ (fun _ => rfl)) q2 ?_; rotate_left; focus (intro wq hw; clear hw; go_simp; try (with_reducible rfl))
      refine wpHeldIn_done (by kernel_rfl) ?_ _
      go_simp
      refine noPanic_of ?_
      have hb2 : Below w1.heap.size w1 w2 := (Below.refl _ _).drew.trans q2
      have bT2 := bT1.below hb2
      have bK2 := bK1.below hb2
      have hB2 := hB1.trans (hb2.mono hB1.size)
      clear q0 KC q2 hb hb2 bT1 bK1 hB1 y0 y1 hwk
      cases hb : TB j
      ·
        have hF := HN1 hb
        clear HN1 HS1
        go_wp2_with fail
        go_ret
        rw [HR.out, hF]
        exact ⟨rfl, hB2⟩
      ·
        have hT : Hid (IT (j + 1) = true) := by unfold Hid; rw [HS1, hat.out, hb]; rfl
        clear HN1 HS1
        go_wp2_with fail
        go_roundw
        case rel => exact ⟨j + 1, by omega, by go_num, hB2, bT2, bK2, hT⟩
        case measure => simp [intOf]; omega
    ·
      have ek : j = ts.length := by omega
      subst ek
      have kT9 := bT1.cell 9 rfl
      have lT := bT1.lt
      go_wp2_with fail
      go_ret
      rw [HR.out, hat.out]
      exact ⟨rfl, hB1⟩
end Go.Proofs.YtkmacpkjobdffaaGreat
