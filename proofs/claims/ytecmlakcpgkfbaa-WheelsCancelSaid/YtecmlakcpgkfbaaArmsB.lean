/- Contracts of the reduction of a ratio, of the check of several ratios, and of sums, products and the order of two ratios. -/
import Derived.Test.YtecmlakcpgkfbaaArmsA
import Derived.RegionTactic
import Derived.BigRegion
import Derived.Laws.ResultCell
import Derived.Handy
namespace Go.Proofs.Ytecmlakcpgkfbaa
open Go.RowKit

theorem tdiv_bd {n g : Int} (_hg : 1 ≤ g) (h0 : -9000000000000000000 ≤ n) (h1 : n ≤ 9000000000000000000) : -9000000000000000000 ≤ n.tdiv g ∧ n.tdiv g ≤ 9000000000000000000 := by
  have h := Int.natAbs_tdiv n g
  have h2 : n.natAbs.div g.natAbs ≤ n.natAbs := Nat.div_le_self _ _
  rw [← h] at h2
  omega
theorem ret_t {k : IntKind} {a b a' b' c c' : Int} (h : a = a') (h2 : b = b') (h3 : c = c') :
    Ending.returned (.tuple #[.agg #[.int .i64 a, .int .i64 b], .int k c]) = .returned (.tuple #[.agg #[.int .i64 a', .int .i64 b'], .int k c']) := by rw [h, h2, h3]

theorem load_rat (w : World) (b : Nat) (x y : Value) (hx : w.cell? ⟨b, 0, none⟩ = some x) (hy : w.cell? ⟨b, 1, none⟩ = some y) :
    (loadVar 111 ⟨b, 0, none⟩).run Try.prog w = .ok (.agg #[x, y]) w := by
  simp [go_sem, hx, hy]
theorem ret_rat {fn : Func} {p u : Tmp} {a : Act} {w : World} {R : Ending → World → Prop} {b : Nat} {x y e : Value} (h : fn.results = #[.cell p 111, .tmp u])
    (hp : a.tmps.getD p undef = .pointer (some ⟨b, 0, none⟩)) (hu : a.tmps.getD u undef = e) (hx : w.cell? ⟨b, 0, none⟩ = some x) (hy : w.cell? ⟨b, 1, none⟩ = some y)
    (hd : a.defers = []) (hR : R (.returned (.tuple #[.agg #[x, y], e])) w) : bodyPost Try.prog fn R .ret a w := by
  refine bodyPost_ret ?_ hd hR
  rw [results_cell_tmp h]
  simp only [hp, hu, asAddr, Sem.run_pure, Result.andThen_ok, load_rat w b x y hx hy]

set_option maxHeartbeats 400000 in
theorem reduced_any (n d : Int) (w : World) (h0 : -9000000000000000000 ≤ n) (h1 : n ≤ 9000000000000000000) (h2 : 1 ≤ d) (h3 : d ≤ 9000000000000000000) :
    Calls Try.prog 92 #[.int .i64 n, .int .i64 d] w fun e w' => e = .returned (.tuple #[.agg #[.int .i64 (Arm.sN n d), .int .i64 (Arm.sD n d)], .int .i64 (Arm.sE n d)]) ∧ Below w.heap.size w w' := by
  have g1 := Arm.gcd_pos_of (n := n) h2
  have g2 := Arm.gcd_le_of (n := n) h2
  have e0 := Arm.gcd_abs n d
  go_enter Try.func92, Try.ntmps92
  go_wp2_with fail
  refine (withoutSign_any n _ h0 h1).mono ?_
  rintro e w' ⟨rfl, rfl⟩
  go_wp2_with fail
  refine (divisor_any _ _ _ (by omega) (by omega) (by omega) (by omega)).mono ?_
  rintro e w' ⟨rfl, k, rfl⟩
  rw [e0]
  clear e0
  generalize hgg : ((Int.gcd n d : Nat) : Int) = g at *
  have Hg := Lib.hid hgg
  clear hgg
  have hb := tdiv_bd (n := n) g1 h0 h1
  go_wp2_with fail
  go_region
  go_wp2_with fail
  refine (validRatio_any _ _ _).mono ?_
  rintro e w1 ⟨rfl, hb1⟩
  obtain ⟨hc, hf⟩ := bcell hb1
  have hz := hb1.size
  have hB : Below w.heap.size w w1 := Below.trans (by (repeat' (first | (with_reducible exact Below.refl _ _) | (with_reducible assumption) | (with_reducible refine Below.alloc ?_ ?_ _) | (with_reducible refine below_drewN ?_ _) | (with_reducible refine Below.drew ?_) | (with_reducible refine Below.setCell ?_ ?_ _) | go_size))) (hb1.mono (by simp; omega))
  have hN : Hid (n.tdiv g = Arm.redN n d) := by
    unfold Arm.redN; rw [Hg.out]; exact Int.tdiv_eq_ediv_of_dvd (Hg.out ▸ Int.gcd_dvd_left n d)
  have hD : Hid (d / g = Arm.redD n d) := by unfold Arm.redD; rw [Hg.out]; rfl
  have hx0 : w1.cell? ⟨w.heap.size, 0, none⟩ = some (.int .i64 0) := by rw [hc _ _ (by simp; omega)]; go_cell
  have hx1 : w1.cell? ⟨w.heap.size, 1, none⟩ = some (.int .i64 0) := by rw [hc _ _ (by simp; omega)]; go_cell
  by_cases hok : Arm.okB (n.tdiv g) (d / g) = true
  · have hF : Hid (Arm.fit n d = true) := by unfold Arm.fit; rw [← hN.out, ← hD.out]; exact hok
    go_wp2
    refine ret_rat (b := w.heap.size) (by rfl) rfl rfl (by (repeat (rw [World.cell?_alloc_lt _ _ _ (by first | omega | (simp; done) | (simp; omega))])); go_cell) (by (repeat (rw [World.cell?_alloc_lt _ _ _ (by first | omega | (simp; done) | (simp; omega))])); go_cell) rfl ?_
    refine ⟨ret_t ?_ ?_ ?_, by (repeat' (first | (with_reducible exact Below.refl _ _) | (with_reducible assumption) | (with_reducible refine Below.alloc ?_ ?_ _) | (with_reducible refine below_drewN ?_ _) | (with_reducible refine Below.drew ?_) | (with_reducible refine Below.setCell ?_ ?_ _) | go_size))⟩
    · unfold Arm.sN; rw [if_pos hF.out]; exact hN.out
    · unfold Arm.sD; rw [if_pos hF.out]; exact hD.out
    · unfold Arm.sE; rw [if_pos hF.out]
  · have hok' : Arm.okB (n.tdiv g) (d / g) = false := by simpa using hok
    have hF : Hid (¬ Arm.fit n d = true) := by unfold Arm.fit; rw [← hN.out, ← hD.out]; exact hok
    go_wp2
    refine ret_rat (b := w.heap.size) (by rfl) rfl rfl (by (repeat (rw [World.cell?_alloc_lt _ _ _ (by first | omega | (simp; done) | (simp; omega))])); go_cell) (by (repeat (rw [World.cell?_alloc_lt _ _ _ (by first | omega | (simp; done) | (simp; omega))])); go_cell) rfl ?_
    refine ⟨ret_t ?_ ?_ ?_, by (repeat' (first | (with_reducible exact Below.refl _ _) | (with_reducible assumption) | (with_reducible refine Below.alloc ?_ ?_ _) | (with_reducible refine below_drewN ?_ _) | (with_reducible refine Below.drew ?_) | (with_reducible refine Below.setCell ?_ ?_ _) | go_size))⟩
    · unfold Arm.sN; rw [if_neg hF.out]
    · unfold Arm.sD; rw [if_neg hF.out]
    · unfold Arm.sE; rw [if_neg hF.out]

end Go.Proofs.Ytecmlakcpgkfbaa
