/- Best of package arms returns for any ratio and number up to 200, or ones that are not valid, what the specification returns, and the look at the examples holds. No condition beyond the statement's own. -/
import Derived.Test.YtfjcmmdfipppoaaArmsY
import Derived.Test.YtfjcmmdfipppoaaArmsS
import Derived.Test.YtfjcmmdfipppoaaFrame2
namespace Go.Proofs.Ytfjcmmdfipppoaa
open Go.RowKit
set_option maxRecDepth 100000 in
set_option maxHeartbeats 4000000 in
theorem lawBest_walk (n d M : Int) (w : World) :
    Calls Try.prog 4 #[.agg #[.int .i64 n, .int .i64 d], .int .i64 M] w fun x w' => x = .returned (.bool true) ∧ Below w.heap.size w w' := by
  by_cases hg : 200 < M ∧ M ≤ 1000000
  · obtain ⟨g1, g2⟩ := hg
    go_enter Try.func4, Try.ntmps4
    go_wp2_with fail
    refine (works_any _).mono ?_
    rintro r w1 ⟨rfl, hb1⟩
    have hB1 : Below w.heap.size w w1 := Below.trans (by (repeat' (first | (with_reducible exact Below.refl _ _) | (with_reducible assumption) | (with_reducible refine Below.alloc ?_ ?_ _) | (with_reducible refine below_drewN ?_ _) | (with_reducible refine Below.drew ?_) | (with_reducible refine Below.setCell ?_ ?_ _) | go_size))) (hb1.mono (by first | omega | (simp; done) | (simp; omega))); have hz1 := hb1.size; try simp at hz1
    go_wp2_with fail
    go_returns
    exact ⟨rfl, hB1⟩
  · have hM : M ≤ 200 ∨ 1000000 < M := by omega
    clear hg
    by_cases hy : Arm.okB n d = true ∧ (1 ≤ M ∧ M ≤ 1000000)
    · have hok := Arm.okB_true.1 hy.1
      have m1 := hy.2.1
      have m2 : M ≤ 200 := by omega
      have HOK := Lib.hid hok
      have hi := Best.rb_is (n := n) (d := d) hok.1.1 (k := M.toNat) (by omega)
      have hc : ((M.toNat : Nat) : Int) = M := by omega
      rw [hc] at hi
      have HI := Lib.hid hi
      have x2 : Hid (∀ W, Calls Try.prog 23 #[.agg #[.int .i64 n, .int .i64 d], .int .i64 M] W fun r w' => r = .returned (.tuple #[.agg #[.int .i64 (Best.rb n d M.toNat).1, .int .i64 (Best.rb n d M.toNat).2], .int .i64 0]) ∧ Below W.heap.size W w') := fun W => refBest_yes n d M W hok m1 m2
      generalize (Best.rb n d M.toNat).1 = P at *
      generalize (Best.rb n d M.toNat).2 = Q at *
      clear hok hy hM hi hc
      go_enter Try.func4, Try.ntmps4
      go_wp2_with fail
      refine (Best_some n d M _ HOK.out m1 (by omega)).mono ?_
      rintro r w1 ⟨p, q, rfl, hI, hb1⟩
      obtain ⟨rfl, rfl⟩ := hI.unique HI.out
      clear hI
      have hB1 : Below w.heap.size w w1 := Below.trans (by (repeat' (first | (with_reducible exact Below.refl _ _) | (with_reducible assumption) | (with_reducible refine Below.alloc ?_ ?_ _) | (with_reducible refine below_drewN ?_ _) | (with_reducible refine Below.drew ?_) | (with_reducible refine Below.setCell ?_ ?_ _) | go_size))) (hb1.mono (by first | omega | (simp; done) | (simp; omega))); have hz1 := hb1.size; try simp at hz1
      have hl1R : w.heap.size < w1.heap.size := (by omega); have hx1R0 : w1.cell? ⟨w.heap.size, 0, none⟩ = some (.int .i64 (n)) := (by rw [(hb1.cell (by first | omega | (simp; done) | (simp; omega)))]; (repeat (rw [World.cell?_alloc_lt _ _ _ (by first | omega | (simp; done) | (simp; omega))])); go_cell); have hx1R1 : w1.cell? ⟨w.heap.size, 1, none⟩ = some (.int .i64 (d)) := (by rw [(hb1.cell (by first | omega | (simp; done) | (simp; omega)))]; (repeat (rw [World.cell?_alloc_lt _ _ _ (by first | omega | (simp; done) | (simp; omega))])); go_cell)
      go_wp2_with fail
      refine (x2.out _).mono ?_
      rintro r w2 ⟨rfl, hb2⟩
      have hB2 : Below w.heap.size w w2 := Below.trans (by (repeat' (first | (with_reducible exact Below.refl _ _) | (with_reducible assumption) | (with_reducible refine Below.alloc ?_ ?_ _) | (with_reducible refine below_drewN ?_ _) | (with_reducible refine Below.drew ?_) | (with_reducible refine Below.setCell ?_ ?_ _) | go_size))) (hb2.mono (by first | omega | (simp; done) | (simp; omega))); have hz2 := hb2.size; try simp at hz2
      have hl2A : w1.heap.size < w2.heap.size := (by omega); have hx2A0 : w2.cell? ⟨w1.heap.size, 0, none⟩ = some (.int .i64 (p)) := (by rw [(hb2.cell (by first | omega | (simp; done) | (simp; omega)))]; (repeat (rw [World.cell?_alloc_lt _ _ _ (by first | omega | (simp; done) | (simp; omega))])); go_cell); have hx2A1 : w2.cell? ⟨w1.heap.size, 1, none⟩ = some (.int .i64 (q)) := (by rw [(hb2.cell (by first | omega | (simp; done) | (simp; omega)))]; (repeat (rw [World.cell?_alloc_lt _ _ _ (by first | omega | (simp; done) | (simp; omega))])); go_cell)
      go_wp2_with fail
      refine (works_any _).mono ?_
      rintro r w3 ⟨rfl, hb3⟩
      have hB3 : Below w.heap.size w w3 := Below.trans (by (repeat' (first | (with_reducible exact Below.refl _ _) | (with_reducible assumption) | (with_reducible refine Below.alloc ?_ ?_ _) | (with_reducible refine below_drewN ?_ _) | (with_reducible refine Below.drew ?_) | (with_reducible refine Below.setCell ?_ ?_ _) | go_size))) (hb3.mono (by first | omega | (simp; done) | (simp; omega))); have hz3 := hb3.size; try simp at hz3
      go_wp2_with fail
      go_returns
      exact ⟨rfl, hB3⟩
    · have HY := Lib.hid hy
      clear hy
      rcases hM with hM | hM
      all_goals
        go_enter Try.func4, Try.ntmps4
        go_wp2_with fail
        refine (Best_err n d M _ HY.out).mono ?_
        rintro r w1 ⟨rfl, hb1⟩
        have hB1 : Below w.heap.size w w1 := Below.trans (by (repeat' (first | (with_reducible exact Below.refl _ _) | (with_reducible assumption) | (with_reducible refine Below.alloc ?_ ?_ _) | (with_reducible refine below_drewN ?_ _) | (with_reducible refine Below.drew ?_) | (with_reducible refine Below.setCell ?_ ?_ _) | go_size))) (hb1.mono (by first | omega | (simp; done) | (simp; omega))); have hz1 := hb1.size; try simp at hz1
        have hl1R : w.heap.size < w1.heap.size := (by omega); have hx1R0 : w1.cell? ⟨w.heap.size, 0, none⟩ = some (.int .i64 (n)) := (by rw [(hb1.cell (by first | omega | (simp; done) | (simp; omega)))]; (repeat (rw [World.cell?_alloc_lt _ _ _ (by first | omega | (simp; done) | (simp; omega))])); go_cell); have hx1R1 : w1.cell? ⟨w.heap.size, 1, none⟩ = some (.int .i64 (d)) := (by rw [(hb1.cell (by first | omega | (simp; done) | (simp; omega)))]; (repeat (rw [World.cell?_alloc_lt _ _ _ (by first | omega | (simp; done) | (simp; omega))])); go_cell)
        go_wp2_with fail
        refine (refBest_err n d M _ HY.out).mono ?_
        rintro r w2 ⟨rfl, hb2⟩
        have hB2 : Below w.heap.size w w2 := Below.trans (by (repeat' (first | (with_reducible exact Below.refl _ _) | (with_reducible assumption) | (with_reducible refine Below.alloc ?_ ?_ _) | (with_reducible refine below_drewN ?_ _) | (with_reducible refine Below.drew ?_) | (with_reducible refine Below.setCell ?_ ?_ _) | go_size))) (hb2.mono (by first | omega | (simp; done) | (simp; omega))); have hz2 := hb2.size; try simp at hz2
        have hl2A : w1.heap.size < w2.heap.size := (by omega); have hx2A0 : w2.cell? ⟨w1.heap.size, 0, none⟩ = some (.int .i64 (0)) := (by rw [(hb2.cell (by first | omega | (simp; done) | (simp; omega)))]; (repeat (rw [World.cell?_alloc_lt _ _ _ (by first | omega | (simp; done) | (simp; omega))])); go_cell); have hx2A1 : w2.cell? ⟨w1.heap.size, 1, none⟩ = some (.int .i64 (0)) := (by rw [(hb2.cell (by first | omega | (simp; done) | (simp; omega)))]; (repeat (rw [World.cell?_alloc_lt _ _ _ (by first | omega | (simp; done) | (simp; omega))])); go_cell)
        go_wp2_with fail
        refine (works_any _).mono ?_
        rintro r w3 ⟨rfl, hb3⟩
        have hB3 : Below w.heap.size w w3 := Below.trans (by (repeat' (first | (with_reducible exact Below.refl _ _) | (with_reducible assumption) | (with_reducible refine Below.alloc ?_ ?_ _) | (with_reducible refine below_drewN ?_ _) | (with_reducible refine Below.drew ?_) | (with_reducible refine Below.setCell ?_ ?_ _) | go_size))) (hb3.mono (by first | omega | (simp; done) | (simp; omega))); have hz3 := hb3.size; try simp at hz3
        go_wp2_with fail
        go_returns
        exact ⟨rfl, hB3⟩

open Go.ChangeShapes Go.WideShapes Go.ChangeAt Go.RowKit Go.Joins

set_option maxRecDepth 100000 in
theorem best_lifted (os : Os) (started : os.Started) (H : Type) (enc : TypeId × Value → H) :
    ReturnsInHanded {} Try.checked os 4 .any (Rows.armsBestSpec.pre6 enc Try.prog Try.f4 Rows.armsBestRow.domain false) (Rows.armsBestSpec.post enc Try.prog Try.f4 false true false false) := by
  refine returnsInHanded_of_change (C := Try.checked) own started (by kernel_rfl) Try.func4
    (ChangeSpec.witness6 (enc := enc) (C := Try.checked) false ⟨#[], #[.agg #[.int .i64 0, .int .i64 0], .int .i64 0], []⟩ 8 (by kernel_rfl) (by kernel_rfl) (by kernel_rfl) (by kernel_rfl)) ?_
  intro W base args ds gs before hval0 hW hcnd _
  have hval : ∀ (j : Nat) t v, Try.f4.params[j]? = some t → args[j]? = some v → Value.okWide Try.prog W .any base t v := hval0
  have hW' := hW
  obtain ⟨p, q, hA0, hV, rfl, hfz, hnd⟩ := hW
  have hA : DataW.TrodAll enc Try.prog W 0 (fun _ => true) true Try.f4.params.toList args.toList ds p := hA0
  rw [Try.params4] at hA hval
  obtain ⟨v0, v1, d0, d1, p0, p1, rfl, rfl, rfl, h0, h1⟩ := trodAll_two hA
  obtain ⟨rfl, rfl⟩ := trodVars_none hV
  obtain ⟨n, d, rfl⟩ := open_Ratio (hval 0 23 v0 rfl rfl) h0
  obtain ⟨M, rfl, rfl, rfl, wf_M⟩ := open_int Try.underlying3 (hval 1 3 v1 rfl rfl) h1
  refine (lawBest_walk n d M W).mono fun e W' ⟨he, hb⟩ => ?_
  subst he
  exact ⟨_, rfl, law_post hW' rfl rfl (by intro t ht; have : t = 23 ∨ t = 3 := (by rw [Try.params4] at ht; simpa using ht); rcases this with rfl | rfl <;> exact ⟨by kernel_rfl, of_decide_eq_true (by kernel_rfl)⟩) rfl rfl rfl hb⟩

theorem best_holds : Rows.ArmsBestSaid :=
  OpenClaim.holds_of_wide 4 Try.f4 rfl rfl rfl rfl rfl rfl rfl ⟨rfl, rfl, rfl, rfl, rfl⟩ rfl rfl rfl rfl rfl (by kernel_rfl) Try.func4 (by kernel_rfl)
    (of_decide_eq_true (by kernel_rfl)) (by unfold Func.isWrapper; rw [if_neg (of_decide_eq_false (by kernel_rfl))]; exact ⟨rfl, rfl⟩)
    (fun os started H enc _ => best_lifted os started H enc)
end Go.Proofs.Ytfjcmmdfipppoaa
