/- Sheets: whether a control is right, or valid. -/
import Derived.Test.YtgpmnkdagpcffaaShA
namespace Go.Proofs.Ytgpmnkdagpcffaa
open Go.RowKit
set_option maxRecDepth 100000 in
set_option maxHeartbeats 2000000 in
theorem fit_any (f : Sh.Fa) (c : Sh.Ct) (w : World) (hf : Sh.fsm f) (hc : Sh.csm c) :
    Calls Try.prog 75 #[.agg #[.int .i64 f.1, .int .i64 f.2], .agg #[.int .i64 c.1, .int .i64 c.2.1, .int .i64 c.2.2.1, .int .i64 c.2.2.2]] w fun e w' => e = .returned (.bool (Sh.fitB f c)) ∧ Below w.heap.size w w' := by
  obtain ⟨f1, f2⟩ := f
  obtain ⟨cw, ct, cr, co⟩ := c
  dsimp only
  have hof : -2000 ≤ Sh.ofV (f1, f2) cw ∧ Sh.ofV (f1, f2) cw ≤ 2000 := by
    unfold Sh.ofV
    unfold Sh.fsm at hf
    dsimp only at hf ⊢
    split <;> omega
  unfold Sh.csm at hc
  dsimp only at hc
  have m1 := mul_bd (a := ct) (b := Sh.ofV (f1, f2) cw) (x := 10000) (y := 2000) (by omega) (by omega) (by omega) (by omega)
  have hw1 : IntKind.i64.wrap (ct * Sh.ofV (f1, f2) cw) = ct * Sh.ofV (f1, f2) cw := IntWalk.i64_in _ (by omega)
  have hw2 : IntKind.i64.wrap (1000 * cr) = 1000 * cr := IntWalk.i64_in _ (by omega)
  have hw3 : IntKind.i64.wrap (1000 * co) = 1000 * co := IntWalk.i64_in _ (by omega)
  have HO : Hid (∀ W, Calls Try.prog 64 #[.agg #[.int .i64 f1, .int .i64 f2], .int .i64 cw] W fun e w' => e = .returned (.int .i64 (Sh.ofV (f1, f2) cw)) ∧ Below W.heap.size W w') := fun W => of_any f1 f2 cw W
  have hfv : Hid (Sh.fitB (f1, f2) (cw, ct, cr, co) = decide (Sh.dist (ct * Sh.ofV (f1, f2) cw) (1000 * cr) ≤ 1000 * co)) := rfl
  have HD : Hid (∀ W, Calls Try.prog 84 #[.int .i64 (ct * Sh.ofV (f1, f2) cw), .int .i64 (1000 * cr)] W fun e w' => e = .returned (.int .i64 (Sh.dist (ct * Sh.ofV (f1, f2) cw) (1000 * cr))) ∧ w' = W) := fun W => distance_any _ _ W (by omega) (by omega)
  clear hf hc hof m1
  generalize Sh.fitB (f1, f2) (cw, ct, cr, co) = R at *
  generalize Sh.ofV (f1, f2) cw = V at *
  generalize Sh.dist (ct * V) (1000 * cr) = D at *
  go_enter Try.func75, Try.ntmps75
  go_wp2_with fail
  have hB0 : Below w.heap.size w ((w.alloc (.cells #[.int .i64 f1, .int .i64 f2] 90)).alloc (.cells #[.int .i64 cw, .int .i64 ct, .int .i64 cr, .int .i64 co] 29)) := by (repeat' (first | (with_reducible exact Below.refl _ _) | (with_reducible assumption) | (with_reducible refine Below.alloc ?_ ?_ _) | (with_reducible refine Below.drew ?_) | (with_reducible refine Below.setCell ?_ ?_ _) | go_size | (exact (by simp)) | omega))
  have bF := (BoxS.new w 90 #[.int .i64 f1, .int .i64 f2]).alloc (.cells #[.int .i64 cw, .int .i64 ct, .int .i64 cr, .int .i64 co] 29)
  have bC := BoxS.new (w.alloc (.cells #[.int .i64 f1, .int .i64 f2] 90)) 29 #[.int .i64 cw, .int .i64 ct, .int .i64 cr, .int .i64 co]
  rw [World.size_alloc] at bC
  generalize World.alloc (World.alloc w _) _ = w1 at *
  refine (wpIn_wide (n := 4)).1 ?_
  have hmo : Try.prog.follows .mixedOrders = true := by kernel_rfl
  have q0 : Below w1.heap.size w1 w1.drew := (Below.refl _ _).drew
  have KC : Hid (∀ W', Below w1.heap.size w1 W' → (W'.cell? ⟨w.heap.size, 0, none⟩ = some (.int .i64 f1) ∧ W'.cell? ⟨w.heap.size, 1, none⟩ = some (.int .i64 f2)) ∧ (W'.cell? ⟨w.heap.size + 1, 0, none⟩ = some (.int .i64 cw) ∧ W'.cell? ⟨w.heap.size + 1, 1, none⟩ = some (.int .i64 ct) ∧ W'.cell? ⟨w.heap.size + 1, 2, none⟩ = some (.int .i64 cr) ∧ W'.cell? ⟨w.heap.size + 1, 3, none⟩ = some (.int .i64 co))) :=
    fun W' h => ⟨⟨(bF.below h).cell 0 rfl, (bF.below h).cell 1 rfl⟩, (bC.below h).cell 0 rfl, (bC.below h).cell 1 rfl, (bC.below h).cell 2 rfl, (bC.below h).cell 3 rfl⟩
  refine wpIn_region_held (fun W' => Below w1.heap.size w1 W') 30 hmo ?_
  refine wpHeldIn_take (i := 0) (v := ?_) (plain_of (by kernel_rfl)) rfl (by kernel_rfl) (fun _ _ _ h => h) (yieldsSoIn_of (by kernel_rfl) ?_ (fun _ => rfl)) q0 ?_; rotate_left; focus (intro wq hw; clear hw; go_simp; try (with_reducible rfl))
  refine wpHeldIn_take (i := 1) (v := ?_) (plain_of (by kernel_rfl)) rfl (by kernel_rfl) (fun _ _ _ h => h) (yieldsSoIn_of (by kernel_rfl) ?_ (fun _ => rfl)) q0 ?_; rotate_left; focus (intro wq hw; have kq := KC.out wq hw; clear hw; go_simp; try (with_reducible rfl))
  refine wpHeldIn_take (i := 2) (v := ?_) (plain_of (by kernel_rfl)) rfl (by kernel_rfl) (fun _ _ _ h => h) (yieldsSoIn_of (by kernel_rfl) ?_ (fun _ => rfl)) q0 ?_; rotate_left; focus (intro wq hw; have kq := KC.out wq hw; clear hw; go_simp; try (with_reducible rfl))
  refine wpHeldIn_take (i := 3) (v := ?_) (plain_of (by kernel_rfl)) rfl (by kernel_rfl) (fun _ _ _ h => h) (yieldsSoIn_of (by kernel_rfl) ?_ (fun _ => rfl)) q0 ?_; rotate_left; focus (intro wq hw; clear hw; go_simp; try (with_reducible rfl))
  refine wpHeldIn_take (i := 4) (v := ?_) (plain_of (by kernel_rfl)) rfl (by kernel_rfl) (fun _ _ _ h => h) (yieldsSoIn_of (by kernel_rfl) ?_ (fun _ => rfl)) q0 ?_; rotate_left; focus (intro wq hw; have kq := KC.out wq hw; clear hw; go_simp; try (with_reducible rfl))
  refine wpHeldIn_take (i := 7) (v := ?_) (plain_of (by kernel_rfl)) rfl (by kernel_rfl) (fun _ _ _ h => h) (yieldsSoIn_of (by kernel_rfl) ?_ (fun _ => rfl)) q0 ?_; rotate_left; focus (intro wq hw; clear hw; go_simp; try (with_reducible rfl))
  refine wpHeldIn_take (i := 8) (v := ?_) (plain_of (by kernel_rfl)) rfl (by kernel_rfl) (fun _ _ _ h => h) (yieldsSoIn_of (by kernel_rfl) ?_ (fun _ => rfl)) q0 ?_; rotate_left; focus (intro wq hw; have kq := KC.out wq hw; clear hw; go_simp; try (with_reducible rfl))
  refine wpHeldIn_take (i := 9) (v := ?_) (plain_of (by kernel_rfl)) rfl (by kernel_rfl) (fun _ _ _ h => h) (yieldsSoIn_of (by kernel_rfl) ?_ (fun _ => rfl)) q0 ?_; rotate_left; focus (intro wq hw; clear hw; go_simp; try (with_reducible rfl))
  refine wpHeldIn_take (i := 11) (v := ?_) (plain_of (by kernel_rfl)) rfl (by kernel_rfl) (fun _ _ _ h => h) (yieldsSoIn_of (by kernel_rfl) ?_ (fun _ => rfl)) q0 ?_; rotate_left; focus (intro wq hw; clear hw; go_simp; try (with_reducible rfl))
  refine wpHeldIn_take (i := 12) (v := ?_) (plain_of (by kernel_rfl)) rfl (by kernel_rfl) (fun _ _ _ h => h) (yieldsSoIn_of (by kernel_rfl) ?_ (fun _ => rfl)) q0 ?_; rotate_left; focus (intro wq hw; have kq := KC.out wq hw; clear hw; go_simp; try (with_reducible rfl))
  refine wpHeldIn_take (i := 13) (v := ?_) (plain_of (by kernel_rfl)) rfl (by kernel_rfl) (fun _ _ _ h => h) (yieldsSoIn_of (by kernel_rfl) ?_ (fun _ => rfl)) q0 ?_; rotate_left; focus (intro wq hw; clear hw; go_simp; try (with_reducible rfl))
  refine wpHeldIn_one (i := 5) (by kernel_rfl) (by kernel_rfl) rfl (by kernel_rfl) (fun K' hK' => ?_); go_simp; refine ⟨trivial, (callsIn_wide.2 (HO.out _)).mono ?_⟩; rintro e w2 ⟨rfl, hb2⟩
  have q1 := q0.trans (hb2.mono q0.size)
  refine hK' _ _ q1 ?_
  refine wpHeldIn_take (i := 6) (v := ?_) (plain_of (by kernel_rfl)) rfl (by kernel_rfl) (fun _ _ _ h => h) (yieldsSoIn_of (by kernel_rfl) ?_ (fun _ => rfl)) q1 ?_; rotate_left; focus (intro wq hw; clear hw; go_simp; try (with_reducible rfl))
  refine wpHeldIn_one (i := 10) (by kernel_rfl) (by kernel_rfl) rfl (by kernel_rfl) (fun K2 hK2 => ?_)
  go_simp
  refine ⟨trivial, (callsIn_wide.2 (HD.out _)).mono ?_⟩
  rintro e w3 ⟨rfl, rfl⟩
  refine hK2 _ _ q1 ?_
  refine wpHeldIn_take (i := 14) (v := ?_) (plain_of (by kernel_rfl)) rfl (by kernel_rfl) (fun _ _ _ h => h) (yieldsSoIn_of (by kernel_rfl) ?_ (fun _ => rfl)) q1 ?_; rotate_left; focus (intro wq hw; clear hw; go_simp; try (with_reducible rfl))
  refine wpHeldIn_take (i := 15) (v := ?_) (plain_of (by kernel_rfl)) rfl (by kernel_rfl) (fun _ _ _ h => h) (yieldsSoIn_of (by kernel_rfl) ?_ (fun _ => rfl)) q1 ?_; rotate_left; focus (intro wq hw; clear hw; go_simp; try (with_reducible rfl))
  refine wpHeldIn_done (by kernel_rfl) ?_ _
  go_simp
  have hBB := hB0.trans (q1.mono hB0.size)
  clear KC q0 q1
  go_wp2_with fail
  go_returns
  exact ⟨by rw [hfv.out]; rfl, hBB⟩
end Go.Proofs.Ytgpmnkdagpcffaa
