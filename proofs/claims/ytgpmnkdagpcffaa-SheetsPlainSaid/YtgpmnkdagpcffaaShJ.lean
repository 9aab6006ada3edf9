/- Sheets: areas in one truth. -/
import Derived.Test.YtgpmnkdagpcffaaShI
namespace Go.Proofs.Ytgpmnkdagpcffaa
open Go.RowKit Go.Shelf
namespace Sh
def areaN (t : Int) : Int := dist t 0 * 1000 * 1000
def areaD (f : FaS) : Int := f.1.1 * f.1.2
theorem dist_abs {t M : Int} (h : -M ≤ t ∧ t ≤ M) : 0 ≤ dist t 0 ∧ dist t 0 ≤ M := by unfold dist; omega
theorem areaN_bd {t : Int} (h : -80000000 ≤ t ∧ t ≤ 80000000) : 0 ≤ areaN t ∧ areaN t ≤ 80000000000000 := by
  have := dist_abs h
  unfold areaN
  omega
theorem areaD_bd (f : FaS) : 1 ≤ areaD f ∧ areaD f ≤ 4000000 := by
  obtain ⟨⟨a, b⟩, ⟨h1, h2⟩, h3, h4⟩ := f
  show 1 ≤ a * b ∧ a * b ≤ 4000000
  dsimp only at h1 h2 h3 h4
  have m1 := Int.mul_le_mul h1 h3 (by omega) (by omega)
  have m2 := Int.mul_le_mul h2 h4 (by omega) (by omega)
  omega
end Sh
set_option maxRecDepth 100000 in
set_option maxHeartbeats 2000000 in
theorem area_any (f : Sh.FaS) (t : Int) (w : World) (ht : -80000000 ≤ t ∧ t ≤ 80000000) :
    Calls Try.prog 69 #[.agg #[.int .i64 f.1.1, .int .i64 f.1.2], .int .i64 t] w fun e w' => e = .returned (.tuple #[.int .i64 (Sh.areaN t), .int .i64 (Sh.areaD f)]) ∧ Below w.heap.size w w' := by
  have hd := Sh.dist_abs ht
  have hD := Sh.areaD_bd f
  have HN : Hid (Sh.areaN t = Sh.dist t 0 * 1000 * 1000) := rfl
  have HDD : Hid (Sh.areaD f = f.1.1 * f.1.2) := rfl
  have hw3 : IntKind.i64.wrap (f.1.1 * f.1.2) = f.1.1 * f.1.2 := IntWalk.i64_in _ (by unfold Sh.areaD at hD; omega)
  have HC : Hid (∀ W, Calls Try.prog 84 #[.int .i64 t, .int .i64 0] W fun e w' => e = .returned (.int .i64 (Sh.dist t 0)) ∧ w' = W) := fun W => distance_any t 0 W (by omega) (by omega)
  generalize Sh.areaN t = N at *
  generalize Sh.areaD f = D at *
  generalize Sh.dist t 0 = d at *
  obtain ⟨⟨f1, f2⟩, hf⟩ := f
  dsimp only at *
  have hw1 : IntKind.i64.wrap (d * 1000) = d * 1000 := IntWalk.i64_in _ (by omega)
  have hw2 : IntKind.i64.wrap (d * 1000 * 1000) = d * 1000 * 1000 := IntWalk.i64_in _ (by omega)
  clear hd hD ht hf
  go_enter Try.func69, Try.ntmps69
  go_wp2_with fail
  have hB0 : Below w.heap.size w (w.alloc (.cells #[.int .i64 f1, .int .i64 f2] 90)) := by (repeat' (first | (with_reducible exact Below.refl _ _) | (with_reducible assumption) | (with_reducible refine Below.alloc ?_ ?_ _) | (with_reducible refine Below.drew ?_) | (with_reducible refine Below.setCell ?_ ?_ _) | go_size | (exact (by simp)) | omega))
  have bF := BoxS.new w 90 #[.int .i64 f1, .int .i64 f2]
  generalize World.alloc w _ = w1 at *
  refine (wpIn_wide (n := 4)).1 ?_
  have hmo : Try.prog.follows .mixedOrders = true := by kernel_rfl
  have q0 : Below w1.heap.size w1 w1.drew := (Below.refl _ _).drew
  have KC : Hid (∀ W', Below w1.heap.size w1 W' → W'.cell? ⟨w.heap.size, 0, none⟩ = some (.int .i64 f1) ∧ W'.cell? ⟨w.heap.size, 1, none⟩ = some (.int .i64 f2)) :=
    fun W' h => ⟨(bF.below h).cell 0 rfl, (bF.below h).cell 1 rfl⟩
  refine wpIn_region_held (fun W' => Below w1.heap.size w1 W') 30 hmo ?_
  refine wpHeldIn_take (i := 0) (v := ?_) (plain_of (by kernel_rfl)) rfl (by kernel_rfl) (fun _ _ _ h => h) (yieldsSoIn_of (by kernel_rfl) ?_ (fun _ => rfl)) q0 ?_; rotate_left; focus (intro wq hw; clear hw; go_simp; try (with_reducible rfl))
  refine wpHeldIn_take (i := 4) (v := ?_) (plain_of (by kernel_rfl)) rfl (by kernel_rfl) (fun _ _ _ h => h) (yieldsSoIn_of (by kernel_rfl) ?_ (fun _ => rfl)) q0 ?_; rotate_left; focus (intro wq hw; clear hw; go_simp; try (with_reducible rfl))
  refine wpHeldIn_take (i := 5) (v := ?_) (plain_of (by kernel_rfl)) rfl (by kernel_rfl) (fun _ _ _ h => h) (yieldsSoIn_of (by kernel_rfl) ?_ (fun _ => rfl)) q0 ?_; rotate_left; focus (intro wq hw; have kq := KC.out wq hw; clear hw; go_simp; try (with_reducible rfl))
  refine wpHeldIn_take (i := 6) (v := ?_) (plain_of (by kernel_rfl)) rfl (by kernel_rfl) (fun _ _ _ h => h) (yieldsSoIn_of (by kernel_rfl) ?_ (fun _ => rfl)) q0 ?_; rotate_left; focus (intro wq hw; clear hw; go_simp; try (with_reducible rfl))
  refine wpHeldIn_take (i := 7) (v := ?_) (plain_of (by kernel_rfl)) rfl (by kernel_rfl) (fun _ _ _ h => h) (yieldsSoIn_of (by kernel_rfl) ?_ (fun _ => rfl)) q0 ?_; rotate_left; focus (intro wq hw; have kq := KC.out wq hw; clear hw; go_simp; try (with_reducible rfl))
  refine wpHeldIn_take (i := 8) (v := ?_) (plain_of (by kernel_rfl)) rfl (by kernel_rfl) (fun _ _ _ h => h) (yieldsSoIn_of (by kernel_rfl) ?_ (fun _ => rfl)) q0 ?_; rotate_left; focus (intro wq hw; clear hw; go_simp; try (with_reducible rfl))
  refine wpHeldIn_one (i := 1) (by kernel_rfl) (by kernel_rfl) rfl (by kernel_rfl) (fun K2 hK2 => ?_)
  go_simp
  refine ⟨trivial, (callsIn_wide.2 (HC.out _)).mono ?_⟩
  rintro e w3 ⟨rfl, rfl⟩
  refine hK2 _ _ q0 ?_
  refine wpHeldIn_take (i := 2) (v := ?_) (plain_of (by kernel_rfl)) rfl (by kernel_rfl) (fun _ _ _ h => h) (yieldsSoIn_of (by kernel_rfl) ?_ (fun _ => rfl)) q0 ?_; rotate_left; focus (intro wq hw; clear hw; go_simp; try (with_reducible rfl))
  refine wpHeldIn_take (i := 3) (v := ?_) (plain_of (by kernel_rfl)) rfl (by kernel_rfl) (fun _ _ _ h => h) (yieldsSoIn_of (by kernel_rfl) ?_ (fun _ => rfl)) q0 ?_; rotate_left; focus (intro wq hw; clear hw; go_simp; try (with_reducible rfl))
  refine wpHeldIn_take (i := 9) (v := ?_) (plain_of (by kernel_rfl)) rfl (by kernel_rfl) (fun _ _ _ h => h) (yieldsSoIn_of (by kernel_rfl) ?_ (fun _ => rfl)) q0 ?_; rotate_left; focus (intro wq hw; clear hw; go_simp; try (with_reducible rfl))
  refine wpHeldIn_take (i := 10) (v := ?_) (plain_of (by kernel_rfl)) rfl (by kernel_rfl) (fun _ _ _ h => h) (yieldsSoIn_of (by kernel_rfl) ?_ (fun _ => rfl)) q0 ?_; rotate_left; focus (intro wq hw; clear hw; go_simp; try (with_reducible rfl))
  refine wpHeldIn_done (by kernel_rfl) ?_ _
  go_simp
  have hBB := hB0.drew
  clear KC q0
  go_wp2_with fail
  go_returns
  exact ⟨by rw [HN.out, HDD.out]; rfl, hBB⟩
end Go.Proofs.Ytgpmnkdagpcffaa
