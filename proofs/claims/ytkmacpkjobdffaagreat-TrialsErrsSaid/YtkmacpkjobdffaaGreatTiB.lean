/- Trials: what is seen of an area, and errors, by the program. -/
import Derived.Test.YtkmacpkjobdffaaGreatTiA
namespace Go.Proofs.YtkmacpkjobdffaaGreat
open Go.RowKit
set_option maxHeartbeats 1000000 in
theorem withinT_any (n l h : Int) (w : World) : Calls Tryz.prog 50 #[.int .i64 n, .int .i64 l, .int .i64 h] w fun e w' => e = .returned (.bool (inB n l h)) ∧ w' = w := by
  have HR : Hid (inB n l h = (decide (l ≤ n) && decide (n ≤ h))) := rfl
  cases h1 : decide (l ≤ n)
  · rw [h1] at HR
    go_enter Tryz.func50, Tryz.ntmps50
    go_wp2_with fail
    go_returns
    exact ⟨by rw [HR.out]; rfl, rfl⟩
  · rw [h1] at HR
    go_enter Tryz.func50, Tryz.ntmps50
    go_wp2_with fail
    go_returns
    exact ⟨by rw [HR.out]; rfl, rfl⟩
set_option maxHeartbeats 1000000 in
theorem withoutSign_any (n : Int) (hn : -1000000000 ≤ n ∧ n ≤ 1000000000) (w : World) : Calls Tryz.prog 98 #[.int .i64 n] w fun e w' => e = .returned (.int .i64 (Ti.sizeV n)) ∧ w' = w := by
  have hw : IntKind.i64.wrap (-n) = -n := IntWalk.i64_in _ (by omega)
  go_enter Tryz.func98, Tryz.ntmps98
  go_wp2_with fail
  go_returns
  exact ⟨rfl, rfl⟩
set_option maxHeartbeats 1000000 in
theorem seen_any (x : Ti.Gk) (a : Int) (hg : -50 ≤ x.1 ∧ x.1 ≤ 50) (ha : 0 ≤ a ∧ a ≤ 9000) (w : World) : Calls Tryz.prog 69 #[.agg #[.int .i64 x.1, .int .i64 x.2], .int .i64 a] w fun e w' => e = .returned (.int .i64 (Ti.seenV x.1 a)) ∧ Below w.heap.size w w' := by
  obtain ⟨b1, b2, b3, b4⟩ := Ti.seenV_bd hg ha
  obtain ⟨M, hM⟩ : ∃ M, M = a * (1000 + x.1) := ⟨_, rfl⟩
  have HR : Hid (Ti.seenV x.1 a = M.tdiv 1000) := by rw [hM]; rfl
  have hd : M.tdiv 1000 = Ti.seenV x.1 a := HR.out.symm
  rw [← hM] at b1 b2
  have hM' := hM.symm
  have h1 : IntKind.i64.wrap (1000 + x.1) = 1000 + x.1 := IntWalk.i64_in _ (by omega)
  have h2 : IntKind.i64.wrap M = M := IntWalk.i64_in _ (by omega)
  have h3 : IntKind.i64.wrap (M.tdiv 1000) = Ti.seenV x.1 a := by rw [hd]; exact IntWalk.i64_in _ (by omega)
  generalize Ti.seenV x.1 a = S at *
  obtain ⟨g, s⟩ := x
  dsimp only at *
  clear hM
  go_enter Tryz.func69, Tryz.ntmps69
  go_wp2_with fail
  go_returns
  exact ⟨rfl, by (repeat' (first | (with_reducible exact Below.refl _ _) | (with_reducible assumption) | (with_reducible refine Below.alloc ?_ ?_ _) | (with_reducible refine Below.drew ?_) | (with_reducible refine Below.setCell ?_ ?_ _) | go_size | (exact (by simp)) | omega))⟩
set_option maxRecDepth 100000 in
set_option maxHeartbeats 4000000 in
theorem err_any (x : Ti.Gk) (a : Int) (hg : -50 ≤ x.1 ∧ x.1 ≤ 50) (hs : -20 ≤ x.2 ∧ x.2 ≤ 20) (ha : 0 ≤ a ∧ a ≤ 9000) (w : World) : Calls Tryz.prog 63 #[.agg #[.int .i64 x.1, .int .i64 x.2], .int .i64 a] w fun e w' => e = .returned (.int .i64 (Ti.errV x a)) ∧ Below w.heap.size w w' := by
  obtain ⟨b1, b2, b3, b4⟩ := Ti.seenV_bd hg ha
  have HSE : Hid (∀ W, Calls Tryz.prog 69 #[.agg #[.int .i64 x.1, .int .i64 x.2], .int .i64 a] W fun e w' => e = .returned (.int .i64 (Ti.seenV x.1 a)) ∧ Below W.heap.size W w') := fun W => seen_any x a hg ha W
  have HW1 : Hid (∀ W, Calls Tryz.prog 98 #[.int .i64 (Ti.seenV x.1 a - a)] W fun e w' => e = .returned (.int .i64 (Ti.sizeV (Ti.seenV x.1 a - a))) ∧ w' = W) := fun W => withoutSign_any _ (by omega) W
  have HW2 : Hid (∀ W, Calls Tryz.prog 98 #[.int .i64 x.2] W fun e w' => e = .returned (.int .i64 (Ti.sizeV x.2)) ∧ w' = W) := fun W => withoutSign_any _ (by omega) W
  have HR : Hid (Ti.errV x a = Ti.sizeV (Ti.seenV x.1 a - a) + Ti.sizeV x.2) := rfl
  have z1 : 0 ≤ Ti.sizeV (Ti.seenV x.1 a - a) ∧ Ti.sizeV (Ti.seenV x.1 a - a) ≤ 20000 := by unfold Ti.sizeV; omega
  have z2 : 0 ≤ Ti.sizeV x.2 ∧ Ti.sizeV x.2 ≤ 20 := by unfold Ti.sizeV; omega
  have h1 : IntKind.i64.wrap (Ti.seenV x.1 a - a) = Ti.seenV x.1 a - a := IntWalk.i64_in _ (by omega)
  have h2 : IntKind.i64.wrap (Ti.sizeV (Ti.seenV x.1 a - a) + Ti.sizeV x.2) = Ti.sizeV (Ti.seenV x.1 a - a) + Ti.sizeV x.2 := IntWalk.i64_in _ (by omega)
  have hmo : Tryz.prog.follows .mixedOrders = true := by kernel_rfl
  generalize Ti.sizeV (Ti.seenV x.1 a - a) = U at *
  generalize Ti.sizeV x.2 = V at *
  generalize Ti.seenV x.1 a = S at *
  generalize Ti.errV x a = E at *
  obtain ⟨g, s⟩ := x
  dsimp only at *
  clear z1 z2 b1 b2 b3 b4
  go_enter Tryz.func63, Tryz.ntmps63
  go_wp2_with fail
  have bT1 := BoxS.new w 93 #[.int .i64 g, .int .i64 s]
  have hB1 : Below w.heap.size w (w.alloc (.cells #[.int .i64 g, .int .i64 s] 93)) := by (repeat' (first | (with_reducible exact Below.refl _ _) | (with_reducible assumption) | (with_reducible refine Below.alloc ?_ ?_ _) | (with_reducible refine Below.drew ?_) | (with_reducible refine Below.setCell ?_ ?_ _) | go_size | (exact (by simp)) | omega))
  generalize World.alloc w _ = w1 at *
  have q0 : Below w1.heap.size w1 w1.drew := (Below.refl _ _).drew
  have KC : Hid (∀ W', Below w1.heap.size w1 W' → W'.cell? ⟨w.heap.size, 0, none⟩ = some (.int .i64 g) ∧ W'.cell? ⟨w.heap.size, 1, none⟩ = some (.int .i64 s)) := fun W' h => boxS2 (bT1.below h)
  try go_wp2_with fail
  refine (wpIn_wide (n := 4)).1 ?_
  refine wpIn_region_held (fun W' => Below w1.heap.size w1 W') 30 hmo ?_
  refine wpHeldIn_take (i := 0) (v := ?_) (plain_of (by kernel_rfl)) rfl (by kernel_rfl) (fun _ _ _ h => h) (yieldsSoIn_of (by kernel_rfl) ?_ (fun _ => rfl)) q0 ?_; rotate_left; focus (intro wq hw; have kq := KC.out wq hw; clear hw; go_simp; try (with_reducible rfl))
  refine wpHeldIn_take (i := 1) (v := ?_) (plain_of (by kernel_rfl)) rfl (by kernel_rfl) (fun _ _ _ h => h) (yieldsSoIn_of (by kernel_rfl) ?_ (fun _ => rfl)) q0 ?_; rotate_left; focus (intro wq hw; clear hw; go_simp; try (with_reducible rfl))
  refine wpHeldIn_take (i := 3) (v := ?_) (plain_of (by kernel_rfl)) rfl (by kernel_rfl) (fun _ _ _ h => h) (yieldsSoIn_of (by kernel_rfl) ?_ (fun _ => rfl)) q0 ?_; rotate_left; focus (intro wq hw; clear hw; go_simp; try (with_reducible rfl))
  refine wpHeldIn_take (i := 6) (v := ?_) (plain_of (by kernel_rfl)) rfl (by kernel_rfl) (fun _ _ _ h => h) (yieldsSoIn_of (by kernel_rfl) ?_ (fun _ => rfl)) q0 ?_; rotate_left; focus (intro wq hw; clear hw; go_simp; try (with_reducible rfl))
  refine wpHeldIn_take (i := 7) (v := ?_) (plain_of (by kernel_rfl)) rfl (by kernel_rfl) (fun _ _ _ h => h) (yieldsSoIn_of (by kernel_rfl) ?_ (fun _ => rfl)) q0 ?_; rotate_left; focus (intro wq hw; have kq := KC.out wq hw; clear hw; go_simp; try (with_reducible rfl))
  refine wpHeldIn_one (i := 2) (by kernel_rfl) (by kernel_rfl) rfl (by kernel_rfl) (fun K2 hK2 => ?_)
  go_simp
  refine ⟨trivial, (callsIn_wide.2 (HSE.out _)).mono ?_⟩
  rintro e w2 ⟨rfl, hb2⟩
  have q2 := q0.trans (hb2.mono q0.size)
  refine hK2 _ _ q2 ?_
  refine wpHeldIn_take (i := 4) (v := ?_) (plain_of (by kernel_rfl)) rfl (by kernel_rfl) (fun _ _ _ h => h) (yieldsSoIn_of (by kernel_rfl) ?_ (fun _ => rfl)) q2 ?_; rotate_left; focus (intro wq hw; clear hw; go_simp; try (with_reducible rfl))
  refine wpHeldIn_take (i := 5) (v := .int .i64 U) (plain_of (by kernel_rfl)) rfl (by kernel_rfl) (fun _ _ _ h => h) (yieldsSoIn_call (by kernel_rfl) ?_ rfl (fun _ => trivial) (fun m wq hw => callsIn_wide.2 ((HW1.out _).mono (fun e w' h => ⟨h.1, h.2⟩)))) q2 ?_; focus (intro wq hw; clear hw; go_simp; try (with_reducible rfl))
  refine wpHeldIn_take (i := 8) (v := .int .i64 V) (plain_of (by kernel_rfl)) rfl (by kernel_rfl) (fun _ _ _ h => h) (yieldsSoIn_call (by kernel_rfl) ?_ rfl (fun _ => trivial) (fun m wq hw => callsIn_wide.2 ((HW2.out _).mono (fun e w' h => ⟨h.1, h.2⟩)))) q2 ?_; focus (intro wq hw; clear hw; go_simp; try (with_reducible rfl))
  refine wpHeldIn_take (i := 9) (v := ?_) (plain_of (by kernel_rfl)) rfl (by kernel_rfl) (fun _ _ _ h => h) (yieldsSoIn_of (by kernel_rfl) ?_ (fun _ => rfl)) q2 ?_; rotate_left; focus (intro wq hw; clear hw; go_simp; try (with_reducible rfl))
  refine wpHeldIn_take (i := 10) (v := ?_) (plain_of (by kernel_rfl)) rfl (by kernel_rfl) (fun _ _ _ h => h) (yieldsSoIn_of (by kernel_rfl) ?_ (fun _ => rfl)) q2 ?_; rotate_left; focus (intro wq hw; clear hw; go_simp; try (with_reducible rfl))
  refine wpHeldIn_done (by kernel_rfl) ?_ _
  go_simp
  have hB3 := hB1.trans (q2.mono hB1.size)
  go_wp2_with fail
  go_returns
  exact ⟨by rw [HR.out]; rfl, hB3⟩
set_option maxHeartbeats 1000000 in
theorem validClass_any (a b : Int) (w : World) : Calls Tryz.prog 65 #[.agg #[.int .i64 a, .int .i64 b]] w fun e w' => e = .returned (.bool (inB a 0 9000 && inB b 0 9999)) ∧ Below w.heap.size w w' := by
  have HW1 : Hid (∀ W, Calls Tryz.prog 50 #[.int .i64 a, .int .i64 0, .int .i64 9000] W fun e w' => e = .returned (.bool (inB a 0 9000)) ∧ w' = W) := fun W => withinT_any _ _ _ W
  have HW2 : Hid (∀ W, Calls Tryz.prog 50 #[.int .i64 b, .int .i64 0, .int .i64 9999] W fun e w' => e = .returned (.bool (inB b 0 9999)) ∧ w' = W) := fun W => withinT_any _ _ _ W
  generalize inB a 0 9000 = U at *
  generalize inB b 0 9999 = V at *
  cases U
  all_goals
    go_enter Tryz.func65, Tryz.ntmps65
    go_wp2_with fail
    refine (HW1.out _).mono ?_
    rintro e wq ⟨rfl, hq⟩
    have hq := hq.symm
    subst hq
    go_wp2_with fail
  · go_returns
    exact ⟨rfl, by (repeat' (first | (with_reducible exact Below.refl _ _) | (with_reducible assumption) | (with_reducible refine Below.alloc ?_ ?_ _) | (with_reducible refine Below.drew ?_) | (with_reducible refine Below.setCell ?_ ?_ _) | go_size | (exact (by simp)) | omega))⟩
  · refine (HW2.out _).mono ?_
    rintro e wq ⟨rfl, hq⟩
    have hq := hq.symm
    subst hq
    go_wp2_with fail
    go_returns
    exact ⟨rfl, by (repeat' (first | (with_reducible exact Below.refl _ _) | (with_reducible assumption) | (with_reducible refine Below.alloc ?_ ?_ _) | (with_reducible refine Below.drew ?_) | (with_reducible refine Below.setCell ?_ ?_ _) | go_size | (exact (by simp)) | omega))⟩
end Go.Proofs.YtkmacpkjobdffaaGreat
