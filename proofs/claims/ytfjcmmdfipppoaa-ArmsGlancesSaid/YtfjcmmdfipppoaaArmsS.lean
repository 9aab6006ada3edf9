/- Contract of the look at the examples. -/
import Derived.Test.YtfjcmmdfipppoaaArmsR
import Derived.Test.YtfjcmmdfipppoaaArmsO
import Derived.Test.YtfjcmmdfipppoaaArmsG
namespace Go.Proofs.Ytfjcmmdfipppoaa
open Go.RowKit

theorem ex_add : Arm.addN 1 6 1 3 = 1 ∧ Arm.addD 1 6 1 3 = 2 ∧ Arm.addE 1 6 1 3 = 0 := by decide +kernel
theorem ex_best : Best.Is 355 113 10 22 7 := by
  refine ⟨by omega, by omega, fun p q h1 h2 => ?_⟩
  have hd : Best.dst 355 113 22 7 = 1 := by decide +kernel
  rw [hd]
  unfold Best.dst
  have : q = 1 ∨ q = 2 ∨ q = 3 ∨ q = 4 ∨ q = 5 ∨ q = 6 ∨ q = 7 ∨ q = 8 ∨ q = 9 ∨ q = 10 := by omega
  rcases this with rfl | rfl | rfl | rfl | rfl | rfl | rfl | rfl | rfl | rfl <;> omega
theorem ex_set : Arm.scV 1 2 3 10 10 200 7 1 1 true = 47 ∧ Arm.cE 1 2 3 10 10 200 7 1 true = 0 := by decide +kernel
def exGs : List (Int × Int) := [(4, 7), (4, 8)]
theorem ex_upto (m : Nat) : Ver.upto 10 1 exGs (50 + m) = [47, 48] := by
  induction m with
  | zero => decide +kernel
  | succ m ih =>
    have h : ¬ Ver.allB 10 1 exGs ((50 + m : Nat) : Int) = true := by
      refine Ver.all_no (j := 0) (g := (4, 7)) rfl ?_
      unfold Ver.oneB
      have : ¬ ((50 + m : Nat) : Int) / 10 = 4 := by omega
      simp only [this, decide_false, Bool.false_and]; simp
    rw [← Nat.add_assoc, Ver.upto_no h, ih]
theorem ex_settings : Ver.setV 10 1 exGs = [47, 48] ∧ Ver.setE 10 1 exGs = 0 := by
  have hu : Ver.upto 10 1 exGs 10001 = [47, 48] := ex_upto 9951
  have hv : Ver.vP 10 1 := by decide +kernel
  have hg : Ver.glsP 10 exGs := by decide +kernel
  have he : Ver.setE 10 1 exGs = 0 := by
    unfold Ver.setE
    rw [if_neg (fun h => h hv), if_neg (fun h => h hg), hu]
    rfl
  exact ⟨by unfold Ver.setV; rw [he, hu]; rfl, he⟩

theorem Example_any (w : World) : Calls Try.prog 61 #[] w fun e w' => e = .returned (.tuple #[.agg #[.int .i64 1, .int .i64 2, .int .i64 3, .int .i64 10, .int .i64 10, .int .i64 200], .agg #[.int .i64 10, .int .i64 1]]) ∧ Below w.heap.size w w' := by
  go_enter Try.func61, Try.ntmps61
  go_wp2
  refine bodyPost_ret (v := .tuple #[.agg #[.int .i64 1, .int .i64 2, .int .i64 3, .int .i64 10, .int .i64 10, .int .i64 200], .agg #[.int .i64 10, .int .i64 1]]) (by simp [results, Try.results61, go_sem]) rfl ?_
  exact ⟨rfl, by (repeat' (first | (with_reducible exact Below.refl _ _) | (with_reducible assumption) | (with_reducible refine Below.alloc ?_ ?_ _) | (with_reducible refine below_drewN ?_ _) | (with_reducible refine Below.drew ?_) | (with_reducible refine Below.setCell ?_ ?_ _) | go_size))⟩

set_option maxRecDepth 100000 in
set_option maxHeartbeats 2000000 in
theorem works_any (w : World) : Calls Try.prog 21 #[] w fun e w' => e = .returned (.bool true) ∧ Below w.heap.size w w' := by
  have hA := Lib.hid ex_add
  have hS := Lib.hid ex_set
  have hT := Lib.hid ex_settings
  go_enter Try.func21, Try.ntmps21
  go_wp2_with fail
  refine (Example_any _).mono ?_
  rintro e w1 ⟨rfl, hb1⟩
  have hB1 : Below w.heap.size w w1 := hb1
  have hz1 := hb1.size
  go_wp2_with fail
  refine (Add_any 1 6 1 3 _).mono ?_
  rintro e w2 ⟨rfl, hb2⟩
  have hB2 : Below w.heap.size w w2 := Below.trans (by (repeat' (first | (with_reducible exact Below.refl _ _) | (with_reducible assumption) | (with_reducible refine Below.alloc ?_ ?_ _) | (with_reducible refine below_drewN ?_ _) | (with_reducible refine Below.drew ?_) | (with_reducible refine Below.setCell ?_ ?_ _) | go_size))) (hb2.mono (by first | omega | (simp; done) | (simp; omega))); have hz2 := hb2.size; try simp at hz2
  have hl2a : w1.heap.size < w2.heap.size := (by omega); have hx2a0 : w2.cell? ⟨w1.heap.size, 0, none⟩ = some (.int .i64 (1)) := (by rw [(hb2.cell (by first | omega | (simp; done) | (simp; omega)))]; (repeat (rw [World.cell?_alloc_lt _ _ _ (by first | omega | (simp; done) | (simp; omega))])); go_cell); have hx2a1 : w2.cell? ⟨w1.heap.size, 1, none⟩ = some (.int .i64 (2)) := (by rw [(hb2.cell (by first | omega | (simp; done) | (simp; omega)))]; (repeat (rw [World.cell?_alloc_lt _ _ _ (by first | omega | (simp; done) | (simp; omega))])); go_cell); have hx2a2 : w2.cell? ⟨w1.heap.size, 2, none⟩ = some (.int .i64 (3)) := (by rw [(hb2.cell (by first | omega | (simp; done) | (simp; omega)))]; (repeat (rw [World.cell?_alloc_lt _ _ _ (by first | omega | (simp; done) | (simp; omega))])); go_cell); have hx2a3 : w2.cell? ⟨w1.heap.size, 3, none⟩ = some (.int .i64 (10)) := (by rw [(hb2.cell (by first | omega | (simp; done) | (simp; omega)))]; (repeat (rw [World.cell?_alloc_lt _ _ _ (by first | omega | (simp; done) | (simp; omega))])); go_cell); have hx2a4 : w2.cell? ⟨w1.heap.size, 4, none⟩ = some (.int .i64 (10)) := (by rw [(hb2.cell (by first | omega | (simp; done) | (simp; omega)))]; (repeat (rw [World.cell?_alloc_lt _ _ _ (by first | omega | (simp; done) | (simp; omega))])); go_cell); have hx2a5 : w2.cell? ⟨w1.heap.size, 5, none⟩ = some (.int .i64 (200)) := (by rw [(hb2.cell (by first | omega | (simp; done) | (simp; omega)))]; (repeat (rw [World.cell?_alloc_lt _ _ _ (by first | omega | (simp; done) | (simp; omega))])); go_cell)
  have hl2v : w1.heap.size + 1 < w2.heap.size := (by omega); have hx2v0 : w2.cell? ⟨w1.heap.size + 1, 0, none⟩ = some (.int .i64 (10)) := (by rw [(hb2.cell (by first | omega | (simp; done) | (simp; omega)))]; (repeat (rw [World.cell?_alloc_lt _ _ _ (by first | omega | (simp; done) | (simp; omega))])); go_cell); have hx2v1 : w2.cell? ⟨w1.heap.size + 1, 1, none⟩ = some (.int .i64 (1)) := (by rw [(hb2.cell (by first | omega | (simp; done) | (simp; omega)))]; (repeat (rw [World.cell?_alloc_lt _ _ _ (by first | omega | (simp; done) | (simp; omega))])); go_cell)
  rw [hA.out.1, hA.out.2.1, hA.out.2.2]
  go_wp2_with fail
  refine (Best_some 355 113 10 _ (by unfold Arm.ok; omega) (by omega) (by omega)).mono ?_
  rintro e w3 ⟨p, q, rfl, hI, hb3⟩
  obtain ⟨rfl, rfl⟩ := hI.unique ex_best
  clear hI
  have hB3 : Below w.heap.size w w3 := Below.trans (by (repeat' (first | (with_reducible exact Below.refl _ _) | (with_reducible assumption) | (with_reducible refine Below.alloc ?_ ?_ _) | (with_reducible refine below_drewN ?_ _) | (with_reducible refine Below.drew ?_) | (with_reducible refine Below.setCell ?_ ?_ _) | go_size))) (hb3.mono (by first | omega | (simp; done) | (simp; omega))); have hz3 := hb3.size; try simp at hz3
  have hl3a : w1.heap.size < w3.heap.size := (by omega); have hx3a0 : w3.cell? ⟨w1.heap.size, 0, none⟩ = some (.int .i64 (1)) := (by rw [(hb3.cell (by first | omega | (simp; done) | (simp; omega)))]; (repeat (rw [World.cell?_alloc_lt _ _ _ (by first | omega | (simp; done) | (simp; omega))])); go_cell); have hx3a1 : w3.cell? ⟨w1.heap.size, 1, none⟩ = some (.int .i64 (2)) := (by rw [(hb3.cell (by first | omega | (simp; done) | (simp; omega)))]; (repeat (rw [World.cell?_alloc_lt _ _ _ (by first | omega | (simp; done) | (simp; omega))])); go_cell); have hx3a2 : w3.cell? ⟨w1.heap.size, 2, none⟩ = some (.int .i64 (3)) := (by rw [(hb3.cell (by first | omega | (simp; done) | (simp; omega)))]; (repeat (rw [World.cell?_alloc_lt _ _ _ (by first | omega | (simp; done) | (simp; omega))])); go_cell); have hx3a3 : w3.cell? ⟨w1.heap.size, 3, none⟩ = some (.int .i64 (10)) := (by rw [(hb3.cell (by first | omega | (simp; done) | (simp; omega)))]; (repeat (rw [World.cell?_alloc_lt _ _ _ (by first | omega | (simp; done) | (simp; omega))])); go_cell); have hx3a4 : w3.cell? ⟨w1.heap.size, 4, none⟩ = some (.int .i64 (10)) := (by rw [(hb3.cell (by first | omega | (simp; done) | (simp; omega)))]; (repeat (rw [World.cell?_alloc_lt _ _ _ (by first | omega | (simp; done) | (simp; omega))])); go_cell); have hx3a5 : w3.cell? ⟨w1.heap.size, 5, none⟩ = some (.int .i64 (200)) := (by rw [(hb3.cell (by first | omega | (simp; done) | (simp; omega)))]; (repeat (rw [World.cell?_alloc_lt _ _ _ (by first | omega | (simp; done) | (simp; omega))])); go_cell)
  have hl3v : w1.heap.size + 1 < w3.heap.size := (by omega); have hx3v0 : w3.cell? ⟨w1.heap.size + 1, 0, none⟩ = some (.int .i64 (10)) := (by rw [(hb3.cell (by first | omega | (simp; done) | (simp; omega)))]; (repeat (rw [World.cell?_alloc_lt _ _ _ (by first | omega | (simp; done) | (simp; omega))])); go_cell); have hx3v1 : w3.cell? ⟨w1.heap.size + 1, 1, none⟩ = some (.int .i64 (1)) := (by rw [(hb3.cell (by first | omega | (simp; done) | (simp; omega)))]; (repeat (rw [World.cell?_alloc_lt _ _ _ (by first | omega | (simp; done) | (simp; omega))])); go_cell)
  have hl3s : w2.heap.size < w3.heap.size := (by omega); have hx3s0 : w3.cell? ⟨w2.heap.size, 0, none⟩ = some (.int .i64 (1)) := (by rw [(hb3.cell (by first | omega | (simp; done) | (simp; omega)))]; (repeat (rw [World.cell?_alloc_lt _ _ _ (by first | omega | (simp; done) | (simp; omega))])); go_cell); have hx3s1 : w3.cell? ⟨w2.heap.size, 1, none⟩ = some (.int .i64 (2)) := (by rw [(hb3.cell (by first | omega | (simp; done) | (simp; omega)))]; (repeat (rw [World.cell?_alloc_lt _ _ _ (by first | omega | (simp; done) | (simp; omega))])); go_cell)
  go_wp2_with fail
  refine (Set_any 1 2 3 10 10 200 7 1 _).mono ?_
  rintro e w4 ⟨rfl, hb4⟩
  have hB4 : Below w.heap.size w w4 := Below.trans (by (repeat' (first | (with_reducible exact Below.refl _ _) | (with_reducible assumption) | (with_reducible refine Below.alloc ?_ ?_ _) | (with_reducible refine below_drewN ?_ _) | (with_reducible refine Below.drew ?_) | (with_reducible refine Below.setCell ?_ ?_ _) | go_size))) (hb4.mono (by first | omega | (simp; done) | (simp; omega))); have hz4 := hb4.size; try simp at hz4
  have hl4v : w1.heap.size + 1 < w4.heap.size := (by omega); have hx4v0 : w4.cell? ⟨w1.heap.size + 1, 0, none⟩ = some (.int .i64 (10)) := (by rw [(hb4.cell (by first | omega | (simp; done) | (simp; omega)))]; (repeat (rw [World.cell?_alloc_lt _ _ _ (by first | omega | (simp; done) | (simp; omega))])); go_cell); have hx4v1 : w4.cell? ⟨w1.heap.size + 1, 1, none⟩ = some (.int .i64 (1)) := (by rw [(hb4.cell (by first | omega | (simp; done) | (simp; omega)))]; (repeat (rw [World.cell?_alloc_lt _ _ _ (by first | omega | (simp; done) | (simp; omega))])); go_cell)
  have hl4s : w2.heap.size < w4.heap.size := (by omega); have hx4s0 : w4.cell? ⟨w2.heap.size, 0, none⟩ = some (.int .i64 (1)) := (by rw [(hb4.cell (by first | omega | (simp; done) | (simp; omega)))]; (repeat (rw [World.cell?_alloc_lt _ _ _ (by first | omega | (simp; done) | (simp; omega))])); go_cell); have hx4s1 : w4.cell? ⟨w2.heap.size, 1, none⟩ = some (.int .i64 (2)) := (by rw [(hb4.cell (by first | omega | (simp; done) | (simp; omega)))]; (repeat (rw [World.cell?_alloc_lt _ _ _ (by first | omega | (simp; done) | (simp; omega))])); go_cell)
  have hl4b : w3.heap.size < w4.heap.size := (by omega); have hx4b0 : w4.cell? ⟨w3.heap.size, 0, none⟩ = some (.int .i64 (22)) := (by rw [(hb4.cell (by first | omega | (simp; done) | (simp; omega)))]; (repeat (rw [World.cell?_alloc_lt _ _ _ (by first | omega | (simp; done) | (simp; omega))])); go_cell); have hx4b1 : w4.cell? ⟨w3.heap.size, 1, none⟩ = some (.int .i64 (7)) := (by rw [(hb4.cell (by first | omega | (simp; done) | (simp; omega)))]; (repeat (rw [World.cell?_alloc_lt _ _ _ (by first | omega | (simp; done) | (simp; omega))])); go_cell)
  rw [hS.out.1, hS.out.2]
  go_wp2_with fail
  refine (Settings_yes 10 1 (some ⟨w4.heap.size, 0, none⟩) 2 exGs _ (by decide) (fun _ => ⟨w4.heap.size, 0, rfl, by simp, fun k g hk => ?_⟩) (by decide +kernel) (by decide +kernel)).mono ?_
  · rcases k with _ | _ | k
    · have : g = (4, 7) := by simpa [exGs] using hk.symm
      subst this
      exact ⟨by go_cell, by go_cell⟩
    · have : g = (4, 8) := by simpa [exGs] using hk.symm
      subst this
      exact ⟨by go_cell, by go_cell⟩
    · simp [exGs] at hk
  rintro e w5 ⟨v, rfl, hown, hb5⟩
  rw [hT.out.1] at hown
  rw [hT.out.2]
  have hB5 : Below w.heap.size w w5 := Below.trans (by (repeat' (first | (with_reducible exact Below.refl _ _) | (with_reducible assumption) | (with_reducible refine Below.alloc ?_ ?_ _) | (with_reducible refine below_drewN ?_ _) | (with_reducible refine Below.drew ?_) | (with_reducible refine Below.setCell ?_ ?_ _) | go_size))) (hb5.mono (by first | omega | (simp; done) | (simp; omega))); have hz5 := hb5.size; try simp at hz5
  have hl5s : w2.heap.size < w5.heap.size := (by omega); have hx5s0 : w5.cell? ⟨w2.heap.size, 0, none⟩ = some (.int .i64 (1)) := (by rw [(hb5.cell (by first | omega | (simp; done) | (simp; omega)))]; (repeat (rw [World.cell?_alloc_lt _ _ _ (by first | omega | (simp; done) | (simp; omega))])); go_cell); have hx5s1 : w5.cell? ⟨w2.heap.size, 1, none⟩ = some (.int .i64 (2)) := (by rw [(hb5.cell (by first | omega | (simp; done) | (simp; omega)))]; (repeat (rw [World.cell?_alloc_lt _ _ _ (by first | omega | (simp; done) | (simp; omega))])); go_cell)
  have hl5b : w3.heap.size < w5.heap.size := (by omega); have hx5b0 : w5.cell? ⟨w3.heap.size, 0, none⟩ = some (.int .i64 (22)) := (by rw [(hb5.cell (by first | omega | (simp; done) | (simp; omega)))]; (repeat (rw [World.cell?_alloc_lt _ _ _ (by first | omega | (simp; done) | (simp; omega))])); go_cell); have hx5b1 : w5.cell? ⟨w3.heap.size, 1, none⟩ = some (.int .i64 (7)) := (by rw [(hb5.cell (by first | omega | (simp; done) | (simp; omega)))]; (repeat (rw [World.cell?_alloc_lt _ _ _ (by first | omega | (simp; done) | (simp; omega))])); go_cell)
  have HI := Lib.hid (Ints.of_own hown)
  clear hown
  go_wp2_with fail
  refine (SameInts_any v _ [47, 48] [47, 48] _ ((HI.out.keep ((Below.refl _ _).alloc (Nat.le_refl _) _)).more (by simp)) (.inr ⟨w5.heap.size, 0, 2, rfl, by simp, fun k x hk => ?_⟩) (by decide) (by decide)).mono ?_
  · rcases k with _ | _ | k
    · have : x = 47 := by simpa using hk.symm
      subst this
      go_cell
    · have : x = 48 := by simpa using hk.symm
      subst this
      go_cell
    · simp at hk
  rintro e w6 ⟨rfl, hb6⟩
  have hB6 : Below w.heap.size w w6 := Below.trans (by (repeat' (first | (with_reducible exact Below.refl _ _) | (with_reducible assumption) | (with_reducible refine Below.alloc ?_ ?_ _) | (with_reducible refine below_drewN ?_ _) | (with_reducible refine Below.drew ?_) | (with_reducible refine Below.setCell ?_ ?_ _) | go_size))) (hb6.mono (by first | omega | (simp; done) | (simp; omega))); have hz6 := hb6.size; try simp at hz6
  go_wp2_with fail
  go_returns
  exact ⟨rfl, hB6⟩
end Go.Proofs.Ytfjcmmdfipppoaa
