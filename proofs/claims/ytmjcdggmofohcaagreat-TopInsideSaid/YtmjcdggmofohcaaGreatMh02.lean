/- Texts of this proof, one behind the other: RefA, RefB. Each says its own conditions. -/
import Derived.Test.YtmjcdggmofohcaaGreatMh01
namespace Go.Proofs.YtmjcdggmofohcaaGreat
open Go.RowKit

set_option maxHeartbeats 1000000 in
theorem Turn_any (x1 y1 x2 y2 x y : Int) (w : World) (h1 : Geo.sm (x1, y1)) (h2 : Geo.sm (x2, y2)) (h3 : Geo.sm (x, y)) :
    Calls Tryz.prog 43 #[.agg #[.int .i64 x1, .int .i64 y1], .agg #[.int .i64 x2, .int .i64 y2], .agg #[.int .i64 x, .int .i64 y]] w
      fun e w' => e = .returned (.int .i64 (Geo.turn (x1, y1) (x2, y2) (x, y))) ∧ Below w.heap.size w w' := by
  have hb := Geo.turn_bd h1 h2 h3
  have HT := Lib.hid (show Geo.turn (x1, y1) (x2, y2) (x, y) = (x2 - x1) * (y - y1) - (y2 - y1) * (x - x1) from rfl)
  generalize Geo.turn (x1, y1) (x2, y2) (x, y) = T at *
  obtain ⟨b1, b2, -⟩ := hb
  dsimp only at b1 b2
  obtain ⟨b11, b12⟩ := b1
  obtain ⟨b21, b22⟩ := b2
  unfold Geo.sm at h1 h2 h3
  dsimp only at h1 h2 h3
  go_enter Tryz.func43, Tryz.ntmps43
  go_wp2_with fail
  go_returns
  exact ⟨ret_i HT.out.symm, by (repeat' (first | (with_reducible exact Below.refl _ _) | (with_reducible assumption) | (with_reducible refine Below.alloc ?_ ?_ _) | (with_reducible refine below_drewN ?_ _) | (with_reducible refine Below.drew ?_) | (with_reducible refine Below.setCell ?_ ?_ _) | go_size))⟩

set_option maxHeartbeats 400000 in
theorem Within_any (n a b : Int) (w : World) :
    Calls Tryz.prog 18 #[.int .i64 n, .int .i64 a, .int .i64 b] w fun e w' => e = .returned (.bool (inB n a b)) ∧ w = w' := by
  go_enter Tryz.func18, Tryz.ntmps18
  go_wp2
  all_goals
    go_ret
    refine ⟨ret_b ?_, rfl⟩
    rw [Bool.eq_iff_iff]
    simp [inB]
    try omega

set_option maxHeartbeats 400000 in
theorem sign_any (n : Int) (w : World) (h : -100000000 ≤ n ∧ n ≤ 100000000) :
    Calls Tryz.prog 44 #[.int .i64 n] w fun e w' => e = .returned (.int .i64 n.sign) ∧ w = w' := by
  have hc : n < 0 ∨ n = 0 ∨ 1 ≤ n := by omega
  rcases hc with hc | rfl | hc
  · have HS := Lib.hid (Int.sign_eq_neg_one_of_neg hc)
    go_enter Tryz.func44, Tryz.ntmps44
    go_wp2
    all_goals
      go_ret
      exact ⟨ret_i HS.out.symm, rfl⟩
  · go_enter Tryz.func44, Tryz.ntmps44
    go_wp2
    all_goals
      go_ret
      exact ⟨rfl, rfl⟩
  · have HS := Lib.hid (Int.sign_eq_one_of_pos (show 0 < n by omega))
    have hm : min n 1 = 1 := by omega
    go_enter Tryz.func44, Tryz.ntmps44
    go_wp2
    all_goals
      go_ret
      refine ⟨ret_i ?_, rfl⟩
      rw [HS.out]
      try omega

set_option maxHeartbeats 400000 in
theorem next_any (A : Option Addr) (c : Nat) (ps : List (Int × Int)) (k : Nat) (w : World) (hl : ps.length ≤ 100) (hk : k < ps.length) :
    Calls Tryz.prog 20 #[.slice A ps.length c, .int .i64 k] w fun e w' => e = .returned (.int .i64 (((k + 1) % ps.length : Nat) : Int)) ∧ w = w' := by
  have hr2 : Hid (((k : Int) + 1).tmod (ps.length : Int) = (((k + 1) % ps.length : Nat) : Int)) := by
    unfold Hid
    rw [Int.tmod_eq_emod_of_nonneg (by omega), Int.natCast_emod]
    rfl
  have hw1 : IntKind.i64.wrap ((k : Int) + 1) = (k : Int) + 1 := IntWalk.i64_in _ (by omega)
  have hne : ¬ (ps.length : Int) = 0 := by omega
  have hne2 : ¬ ps.length = 0 := by omega
  have hne3 : ¬ ps = [] := by intro e; subst e; simp at hne2
  go_enter Tryz.func20, Tryz.ntmps20
  go_wp2
  all_goals
    go_ret
    exact ⟨ret_i hr2.out, rfl⟩

set_option maxHeartbeats 1000000 in
theorem IsPoint_any (x y : Int) (w : World) :
    Calls Tryz.prog 19 #[.agg #[.int .i64 x, .int .i64 y]] w fun e w' => e = .returned (.bool (Geo.ptB (x, y))) ∧ Below w.heap.size w w' := by
  have HO : Hid (Geo.ptB (x, y) = (inB x (-200) 200 && inB y (-200) 200)) := rfl
  generalize Geo.ptB (x, y) = V at *
  cases hX : inB x (-200) 200
  · have HX := Lib.hid hX
    clear hX
    go_enter Tryz.func19, Tryz.ntmps19
    go_wp2_with fail
    refine (Within_any _ _ _ _).mono ?_
    rintro e w1 ⟨rfl, rfl⟩
    rw [HX.out]
    go_wp2_with fail
    go_returns
    exact ⟨ret_b (by rw [HO.out, HX.out]; rfl), by (repeat' (first | (with_reducible exact Below.refl _ _) | (with_reducible assumption) | (with_reducible refine Below.alloc ?_ ?_ _) | (with_reducible refine below_drewN ?_ _) | (with_reducible refine Below.drew ?_) | (with_reducible refine Below.setCell ?_ ?_ _) | go_size))⟩
  · have HX := Lib.hid hX
    clear hX
    go_enter Tryz.func19, Tryz.ntmps19
    go_wp2_with fail
    refine (Within_any _ _ _ _).mono ?_
    rintro e w1 ⟨rfl, rfl⟩
    rw [HX.out]
    go_wp2_with fail
    refine (Within_any _ _ _ _).mono ?_
    rintro e w1 ⟨rfl, rfl⟩
    go_wp2_with fail
    go_returns
    exact ⟨ret_b (by rw [HO.out, HX.out]; rfl), by (repeat' (first | (with_reducible exact Below.refl _ _) | (with_reducible assumption) | (with_reducible refine Below.alloc ?_ ?_ _) | (with_reducible refine below_drewN ?_ _) | (with_reducible refine Below.drew ?_) | (with_reducible refine Below.setCell ?_ ?_ _) | go_size))⟩
end Go.Proofs.YtmjcdggmofohcaaGreat
namespace Go.Proofs.YtmjcdggmofohcaaGreat
open Go.RowKit

set_option maxHeartbeats 4000000 in
theorem On_yes (x1 y1 x2 y2 x y T : Int) (w : World) (hB : (T == 0) = true)
    (x0 : Hid (∀ W, Calls Tryz.prog 43 #[.agg #[.int .i64 x1, .int .i64 y1], .agg #[.int .i64 x2, .int .i64 y2], .agg #[.int .i64 x, .int .i64 y]] W fun e w' => e = .returned (.int .i64 T) ∧ Below W.heap.size W w')) :
    Calls Tryz.prog 21 #[.agg #[.int .i64 x1, .int .i64 y1], .agg #[.int .i64 x2, .int .i64 y2], .agg #[.int .i64 x, .int .i64 y]] w
      fun e w' => e = .returned (.bool (Geo.btwB x1 x x2 && Geo.btwB y1 y y2)) ∧ Below w.heap.size w w' := by
  have HO : Hid (∀ a b c d : Int, (min x1 x2 = a ∧ max x1 x2 = b) → (min y1 y2 = c ∧ max y1 y2 = d) → (Geo.btwB x1 x x2 && Geo.btwB y1 y y2) = (inB x a b && inB y c d)) := by
    rintro a b c d ⟨rfl, rfl⟩ ⟨rfl, rfl⟩
    rfl
  generalize (Geo.btwB x1 x x2 && Geo.btwB y1 y y2) = V at *
  rcases Int.lt_trichotomy x1 x2 with hx | rfl | hx
  · have a1x : x1 ≤ x2 := by omega
    have a2x : ¬ x2 ≤ x1 := by omega
    rcases Int.lt_trichotomy y1 y2 with hy | rfl | hy
    · have a1y : y1 ≤ y2 := by omega
      have a2y : ¬ y2 ≤ y1 := by omega
      cases hX : inB x x1 x2
      · have HX := Lib.hid hX
        clear hX
        go_enter Tryz.func21, Tryz.ntmps21
        go_wp2_with fail
        refine (x0.out _).mono ?_
        rintro e w1 ⟨rfl, hb1⟩
        have hB1 : Below w.heap.size w w1 := Below.trans (by (repeat' (first | (with_reducible exact Below.refl _ _) | (with_reducible assumption) | (with_reducible refine Below.alloc ?_ ?_ _) | (with_reducible refine below_drewN ?_ _) | (with_reducible refine Below.drew ?_) | (with_reducible refine Below.setCell ?_ ?_ _) | go_size))) (hb1.mono (by first | omega | (simp; done) | (simp; omega))); have hz1 := hb1.size; try simp at hz1
        have hl1a : w.heap.size < w1.heap.size := (by omega); have hx1a : w1.cell? ⟨w.heap.size, 0, none⟩ = some (.int .i64 x1) := (by rw [(hb1.cell (by first | omega | (simp; done) | (simp; omega)))]; (repeat (rw [World.cell?_alloc_lt _ _ _ (by first | omega | (simp; done) | (simp; omega))])); go_cell); have hy1a : w1.cell? ⟨w.heap.size, 1, none⟩ = some (.int .i64 y1) := (by rw [(hb1.cell (by first | omega | (simp; done) | (simp; omega)))]; (repeat (rw [World.cell?_alloc_lt _ _ _ (by first | omega | (simp; done) | (simp; omega))])); go_cell)
        have hl1b : w.heap.size + 1 < w1.heap.size := (by omega); have hx1b : w1.cell? ⟨w.heap.size + 1, 0, none⟩ = some (.int .i64 x2) := (by rw [(hb1.cell (by first | omega | (simp; done) | (simp; omega)))]; (repeat (rw [World.cell?_alloc_lt _ _ _ (by first | omega | (simp; done) | (simp; omega))])); go_cell); have hy1b : w1.cell? ⟨w.heap.size + 1, 1, none⟩ = some (.int .i64 y2) := (by rw [(hb1.cell (by first | omega | (simp; done) | (simp; omega)))]; (repeat (rw [World.cell?_alloc_lt _ _ _ (by first | omega | (simp; done) | (simp; omega))])); go_cell)
        have hl1p : w.heap.size + 1 + 1 < w1.heap.size := (by omega); have hx1p : w1.cell? ⟨w.heap.size + 1 + 1, 0, none⟩ = some (.int .i64 x) := (by rw [(hb1.cell (by first | omega | (simp; done) | (simp; omega)))]; (repeat (rw [World.cell?_alloc_lt _ _ _ (by first | omega | (simp; done) | (simp; omega))])); go_cell); have hy1p : w1.cell? ⟨w.heap.size + 1 + 1, 1, none⟩ = some (.int .i64 y) := (by rw [(hb1.cell (by first | omega | (simp; done) | (simp; omega)))]; (repeat (rw [World.cell?_alloc_lt _ _ _ (by first | omega | (simp; done) | (simp; omega))])); go_cell)
        go_wp2_with fail
        refine (Within_any _ _ _ _).mono ?_
        rintro e w2 ⟨rfl, rfl⟩
        rw [HX.out]
        go_wp2_with fail
        go_returns
        exact ⟨ret_b (by rw [HO.out x1 x2 y1 y2 (by omega) (by omega), HX.out]; rfl), by (repeat' (first | (with_reducible exact Below.refl _ _) | (with_reducible assumption) | (with_reducible refine Below.alloc ?_ ?_ _) | (with_reducible refine below_drewN ?_ _) | (with_reducible refine Below.drew ?_) | (with_reducible refine Below.setCell ?_ ?_ _) | go_size))⟩
      · have HX := Lib.hid hX
        clear hX
        go_enter Tryz.func21, Tryz.ntmps21
        go_wp2_with fail
        refine (x0.out _).mono ?_
        rintro e w1 ⟨rfl, hb1⟩
        have hB1 : Below w.heap.size w w1 := Below.trans (by (repeat' (first | (with_reducible exact Below.refl _ _) | (with_reducible assumption) | (with_reducible refine Below.alloc ?_ ?_ _) | (with_reducible refine below_drewN ?_ _) | (with_reducible refine Below.drew ?_) | (with_reducible refine Below.setCell ?_ ?_ _) | go_size))) (hb1.mono (by first | omega | (simp; done) | (simp; omega))); have hz1 := hb1.size; try simp at hz1
        have hl1a : w.heap.size < w1.heap.size := (by omega); have hx1a : w1.cell? ⟨w.heap.size, 0, none⟩ = some (.int .i64 x1) := (by rw [(hb1.cell (by first | omega | (simp; done) | (simp; omega)))]; (repeat (rw [World.cell?_alloc_lt _ _ _ (by first | omega | (simp; done) | (simp; omega))])); go_cell); have hy1a : w1.cell? ⟨w.heap.size, 1, none⟩ = some (.int .i64 y1) := (by rw [(hb1.cell (by first | omega | (simp; done) | (simp; omega)))]; (repeat (rw [World.cell?_alloc_lt _ _ _ (by first | omega | (simp; done) | (simp; omega))])); go_cell)
        have hl1b : w.heap.size + 1 < w1.heap.size := (by omega); have hx1b : w1.cell? ⟨w.heap.size + 1, 0, none⟩ = some (.int .i64 x2) := (by rw [(hb1.cell (by first | omega | (simp; done) | (simp; omega)))]; (repeat (rw [World.cell?_alloc_lt _ _ _ (by first | omega | (simp; done) | (simp; omega))])); go_cell); have hy1b : w1.cell? ⟨w.heap.size + 1, 1, none⟩ = some (.int .i64 y2) := (by rw [(hb1.cell (by first | omega | (simp; done) | (simp; omega)))]; (repeat (rw [World.cell?_alloc_lt _ _ _ (by first | omega | (simp; done) | (simp; omega))])); go_cell)
        have hl1p : w.heap.size + 1 + 1 < w1.heap.size := (by omega); have hx1p : w1.cell? ⟨w.heap.size + 1 + 1, 0, none⟩ = some (.int .i64 x) := (by rw [(hb1.cell (by first | omega | (simp; done) | (simp; omega)))]; (repeat (rw [World.cell?_alloc_lt _ _ _ (by first | omega | (simp; done) | (simp; omega))])); go_cell); have hy1p : w1.cell? ⟨w.heap.size + 1 + 1, 1, none⟩ = some (.int .i64 y) := (by rw [(hb1.cell (by first | omega | (simp; done) | (simp; omega)))]; (repeat (rw [World.cell?_alloc_lt _ _ _ (by first | omega | (simp; done) | (simp; omega))])); go_cell)
        go_wp2_with fail
        refine (Within_any _ _ _ _).mono ?_
        rintro e w2 ⟨rfl, rfl⟩
        rw [HX.out]
        go_wp2_with fail
        refine (Within_any _ _ _ _).mono ?_
        rintro e w2 ⟨rfl, rfl⟩
        go_wp2_with fail
        go_returns
        exact ⟨ret_b (by rw [HO.out x1 x2 y1 y2 (by omega) (by omega), HX.out]; rfl), by (repeat' (first | (with_reducible exact Below.refl _ _) | (with_reducible assumption) | (with_reducible refine Below.alloc ?_ ?_ _) | (with_reducible refine below_drewN ?_ _) | (with_reducible refine Below.drew ?_) | (with_reducible refine Below.setCell ?_ ?_ _) | go_size))⟩
    · cases hX : inB x x1 x2
      · have HX := Lib.hid hX
        clear hX
        go_enter Tryz.func21, Tryz.ntmps21
        go_wp2_with fail
        refine (x0.out _).mono ?_
        rintro e w1 ⟨rfl, hb1⟩
        have hB1 : Below w.heap.size w w1 := Below.trans (by (repeat' (first | (with_reducible exact Below.refl _ _) | (with_reducible assumption) | (with_reducible refine Below.alloc ?_ ?_ _) | (with_reducible refine below_drewN ?_ _) | (with_reducible refine Below.drew ?_) | (with_reducible refine Below.setCell ?_ ?_ _) | go_size))) (hb1.mono (by first | omega | (simp; done) | (simp; omega))); have hz1 := hb1.size; try simp at hz1
        have hl1a : w.heap.size < w1.heap.size := (by omega); have hx1a : w1.cell? ⟨w.heap.size, 0, none⟩ = some (.int .i64 x1) := (by rw [(hb1.cell (by first | omega | (simp; done) | (simp; omega)))]; (repeat (rw [World.cell?_alloc_lt _ _ _ (by first | omega | (simp; done) | (simp; omega))])); go_cell); have hy1a : w1.cell? ⟨w.heap.size, 1, none⟩ = some (.int .i64 y1) := (by rw [(hb1.cell (by first | omega | (simp; done) | (simp; omega)))]; (repeat (rw [World.cell?_alloc_lt _ _ _ (by first | omega | (simp; done) | (simp; omega))])); go_cell)
        have hl1b : w.heap.size + 1 < w1.heap.size := (by omega); have hx1b : w1.cell? ⟨w.heap.size + 1, 0, none⟩ = some (.int .i64 x2) := (by rw [(hb1.cell (by first | omega | (simp; done) | (simp; omega)))]; (repeat (rw [World.cell?_alloc_lt _ _ _ (by first | omega | (simp; done) | (simp; omega))])); go_cell); have hy1b : w1.cell? ⟨w.heap.size + 1, 1, none⟩ = some (.int .i64 y1) := (by rw [(hb1.cell (by first | omega | (simp; done) | (simp; omega)))]; (repeat (rw [World.cell?_alloc_lt _ _ _ (by first | omega | (simp; done) | (simp; omega))])); go_cell)
        have hl1p : w.heap.size + 1 + 1 < w1.heap.size := (by omega); have hx1p : w1.cell? ⟨w.heap.size + 1 + 1, 0, none⟩ = some (.int .i64 x) := (by rw [(hb1.cell (by first | omega | (simp; done) | (simp; omega)))]; (repeat (rw [World.cell?_alloc_lt _ _ _ (by first | omega | (simp; done) | (simp; omega))])); go_cell); have hy1p : w1.cell? ⟨w.heap.size + 1 + 1, 1, none⟩ = some (.int .i64 y) := (by rw [(hb1.cell (by first | omega | (simp; done) | (simp; omega)))]; (repeat (rw [World.cell?_alloc_lt _ _ _ (by first | omega | (simp; done) | (simp; omega))])); go_cell)
        go_wp2_with fail
        refine (Within_any _ _ _ _).mono ?_
        rintro e w2 ⟨rfl, rfl⟩
        rw [HX.out]
        go_wp2_with fail
        go_returns
        exact ⟨ret_b (by rw [HO.out x1 x2 y1 y1 (by omega) (by omega), HX.out]; rfl), by (repeat' (first | (with_reducible exact Below.refl _ _) | (with_reducible assumption) | (with_reducible refine Below.alloc ?_ ?_ _) | (with_reducible refine below_drewN ?_ _) | (with_reducible refine Below.drew ?_) | (with_reducible refine Below.setCell ?_ ?_ _) | go_size))⟩
      · have HX := Lib.hid hX
        clear hX
        go_enter Tryz.func21, Tryz.ntmps21
        go_wp2_with fail
        refine (x0.out _).mono ?_
        rintro e w1 ⟨rfl, hb1⟩
        have hB1 : Below w.heap.size w w1 := Below.trans (by (repeat' (first | (with_reducible exact Below.refl _ _) | (with_reducible assumption) | (with_reducible refine Below.alloc ?_ ?_ _) | (with_reducible refine below_drewN ?_ _) | (with_reducible refine Below.drew ?_) | (with_reducible refine Below.setCell ?_ ?_ _) | go_size))) (hb1.mono (by first | omega | (simp; done) | (simp; omega))); have hz1 := hb1.size; try simp at hz1
        have hl1a : w.heap.size < w1.heap.size := (by omega); have hx1a : w1.cell? ⟨w.heap.size, 0, none⟩ = some (.int .i64 x1) := (by rw [(hb1.cell (by first | omega | (simp; done) | (simp; omega)))]; (repeat (rw [World.cell?_alloc_lt _ _ _ (by first | omega | (simp; done) | (simp; omega))])); go_cell); have hy1a : w1.cell? ⟨w.heap.size, 1, none⟩ = some (.int .i64 y1) := (by rw [(hb1.cell (by first | omega | (simp; done) | (simp; omega)))]; (repeat (rw [World.cell?_alloc_lt _ _ _ (by first | omega | (simp; done) | (simp; omega))])); go_cell)
        have hl1b : w.heap.size + 1 < w1.heap.size := (by omega); have hx1b : w1.cell? ⟨w.heap.size + 1, 0, none⟩ = some (.int .i64 x2) := (by rw [(hb1.cell (by first | omega | (simp; done) | (simp; omega)))]; (repeat (rw [World.cell?_alloc_lt _ _ _ (by first | omega | (simp; done) | (simp; omega))])); go_cell); have hy1b : w1.cell? ⟨w.heap.size + 1, 1, none⟩ = some (.int .i64 y1) := (by rw [(hb1.cell (by first | omega | (simp; done) | (simp; omega)))]; (repeat (rw [World.cell?_alloc_lt _ _ _ (by first | omega | (simp; done) | (simp; omega))])); go_cell)
        have hl1p : w.heap.size + 1 + 1 < w1.heap.size := (by omega); have hx1p : w1.cell? ⟨w.heap.size + 1 + 1, 0, none⟩ = some (.int .i64 x) := (by rw [(hb1.cell (by first | omega | (simp; done) | (simp; omega)))]; (repeat (rw [World.cell?_alloc_lt _ _ _ (by first | omega | (simp; done) | (simp; omega))])); go_cell); have hy1p : w1.cell? ⟨w.heap.size + 1 + 1, 1, none⟩ = some (.int .i64 y) := (by rw [(hb1.cell (by first | omega | (simp; done) | (simp; omega)))]; (repeat (rw [World.cell?_alloc_lt _ _ _ (by first | omega | (simp; done) | (simp; omega))])); go_cell)
        go_wp2_with fail
        refine (Within_any _ _ _ _).mono ?_
        rintro e w2 ⟨rfl, rfl⟩
        rw [HX.out]
        go_wp2_with fail
        refine (Within_any _ _ _ _).mono ?_
        rintro e w2 ⟨rfl, rfl⟩
        go_wp2_with fail
        go_returns
        exact ⟨ret_b (by rw [HO.out x1 x2 y1 y1 (by omega) (by omega), HX.out]; rfl), by (repeat' (first | (with_reducible exact Below.refl _ _) | (with_reducible assumption) | (with_reducible refine Below.alloc ?_ ?_ _) | (with_reducible refine below_drewN ?_ _) | (with_reducible refine Below.drew ?_) | (with_reducible refine Below.setCell ?_ ?_ _) | go_size))⟩
    · have a1y : ¬ y1 ≤ y2 := by omega
      have a2y : y2 ≤ y1 := by omega
      cases hX : inB x x1 x2
      · have HX := Lib.hid hX
        clear hX
        go_enter Tryz.func21, Tryz.ntmps21
        go_wp2_with fail
        refine (x0.out _).mono ?_
        rintro e w1 ⟨rfl, hb1⟩
        have hB1 : Below w.heap.size w w1 := Below.trans (by (repeat' (first | (with_reducible exact Below.refl _ _) | (with_reducible assumption) | (with_reducible refine Below.alloc ?_ ?_ _) | (with_reducible refine below_drewN ?_ _) | (with_reducible refine Below.drew ?_) | (with_reducible refine Below.setCell ?_ ?_ _) | go_size))) (hb1.mono (by first | omega | (simp; done) | (simp; omega))); have hz1 := hb1.size; try simp at hz1
        have hl1a : w.heap.size < w1.heap.size := (by omega); have hx1a : w1.cell? ⟨w.heap.size, 0, none⟩ = some (.int .i64 x1) := (by rw [(hb1.cell (by first | omega | (simp; done) | (simp; omega)))]; (repeat (rw [World.cell?_alloc_lt _ _ _ (by first | omega | (simp; done) | (simp; omega))])); go_cell); have hy1a : w1.cell? ⟨w.heap.size, 1, none⟩ = some (.int .i64 y1) := (by rw [(hb1.cell (by first | omega | (simp; done) | (simp; omega)))]; (repeat (rw [World.cell?_alloc_lt _ _ _ (by first | omega | (simp; done) | (simp; omega))])); go_cell)
        have hl1b : w.heap.size + 1 < w1.heap.size := (by omega); have hx1b : w1.cell? ⟨w.heap.size + 1, 0, none⟩ = some (.int .i64 x2) := (by rw [(hb1.cell (by first | omega | (simp; done) | (simp; omega)))]; (repeat (rw [World.cell?_alloc_lt _ _ _ (by first | omega | (simp; done) | (simp; omega))])); go_cell); have hy1b : w1.cell? ⟨w.heap.size + 1, 1, none⟩ = some (.int .i64 y2) := (by rw [(hb1.cell (by first | omega | (simp; done) | (simp; omega)))]; (repeat (rw [World.cell?_alloc_lt _ _ _ (by first | omega | (simp; done) | (simp; omega))])); go_cell)
        have hl1p : w.heap.size + 1 + 1 < w1.heap.size := (by omega); have hx1p : w1.cell? ⟨w.heap.size + 1 + 1, 0, none⟩ = some (.int .i64 x) := (by rw [(hb1.cell (by first | omega | (simp; done) | (simp; omega)))]; (repeat (rw [World.cell?_alloc_lt _ _ _ (by first | omega | (simp; done) | (simp; omega))])); go_cell); have hy1p : w1.cell? ⟨w.heap.size + 1 + 1, 1, none⟩ = some (.int .i64 y) := (by rw [(hb1.cell (by first | omega | (simp; done) | (simp; omega)))]; (repeat (rw [World.cell?_alloc_lt _ _ _ (by first | omega | (simp; done) | (simp; omega))])); go_cell)
        go_wp2_with fail
        refine (Within_any _ _ _ _).mono ?_
        rintro e w2 ⟨rfl, rfl⟩
        rw [HX.out]
        go_wp2_with fail
        go_returns
        exact ⟨ret_b (by rw [HO.out x1 x2 y2 y1 (by omega) (by omega), HX.out]; rfl), by (repeat' (first | (with_reducible exact Below.refl _ _) | (with_reducible assumption) | (with_reducible refine Below.alloc ?_ ?_ _) | (with_reducible refine below_drewN ?_ _) | (with_reducible refine Below.drew ?_) | (with_reducible refine Below.setCell ?_ ?_ _) | go_size))⟩
      · have HX := Lib.hid hX
        clear hX
        go_enter Tryz.func21, Tryz.ntmps21
        go_wp2_with fail
        refine (x0.out _).mono ?_
        rintro e w1 ⟨rfl, hb1⟩
        have hB1 : Below w.heap.size w w1 := Below.trans (by (repeat' (first | (with_reducible exact Below.refl _ _) | (with_reducible assumption) | (with_reducible refine Below.alloc ?_ ?_ _) | (with_reducible refine below_drewN ?_ _) | (with_reducible refine Below.drew ?_) | (with_reducible refine Below.setCell ?_ ?_ _) | go_size))) (hb1.mono (by first | omega | (simp; done) | (simp; omega))); have hz1 := hb1.size; try simp at hz1
        have hl1a : w.heap.size < w1.heap.size := (by omega); have hx1a : w1.cell? ⟨w.heap.size, 0, none⟩ = some (.int .i64 x1) := (by rw [(hb1.cell (by first | omega | (simp; done) | (simp; omega)))]; (repeat (rw [World.cell?_alloc_lt _ _ _ (by first | omega | (simp; done) | (simp; omega))])); go_cell); have hy1a : w1.cell? ⟨w.heap.size, 1, none⟩ = some (.int .i64 y1) := (by rw [(hb1.cell (by first | omega | (simp; done) | (simp; omega)))]; (repeat (rw [World.cell?_alloc_lt _ _ _ (by first | omega | (simp; done) | (simp; omega))])); go_cell)
        have hl1b : w.heap.size + 1 < w1.heap.size := (by omega); have hx1b : w1.cell? ⟨w.heap.size + 1, 0, none⟩ = some (.int .i64 x2) := (by rw [(hb1.cell (by first | omega | (simp; done) | (simp; omega)))]; (repeat (rw [World.cell?_alloc_lt _ _ _ (by first | omega | (simp; done) | (simp; omega))])); go_cell); have hy1b : w1.cell? ⟨w.heap.size + 1, 1, none⟩ = some (.int .i64 y2) := (by rw [(hb1.cell (by first | omega | (simp; done) | (simp; omega)))]; (repeat (rw [World.cell?_alloc_lt _ _ _ (by first | omega | (simp; done) | (simp; omega))])); go_cell)
        have hl1p : w.heap.size + 1 + 1 < w1.heap.size := (by omega); have hx1p : w1.cell? ⟨w.heap.size + 1 + 1, 0, none⟩ = some (.int .i64 x) := (by rw [(hb1.cell (by first | omega | (simp; done) | (simp; omega)))]; (repeat (rw [World.cell?_alloc_lt _ _ _ (by first | omega | (simp; done) | (simp; omega))])); go_cell); have hy1p : w1.cell? ⟨w.heap.size + 1 + 1, 1, none⟩ = some (.int .i64 y) := (by rw [(hb1.cell (by first | omega | (simp; done) | (simp; omega)))]; (repeat (rw [World.cell?_alloc_lt _ _ _ (by first | omega | (simp; done) | (simp; omega))])); go_cell)
        go_wp2_with fail
        refine (Within_any _ _ _ _).mono ?_
        rintro e w2 ⟨rfl, rfl⟩
        rw [HX.out]
        go_wp2_with fail
        refine (Within_any _ _ _ _).mono ?_
        rintro e w2 ⟨rfl, rfl⟩
        go_wp2_with fail
        go_returns
        exact ⟨ret_b (by rw [HO.out x1 x2 y2 y1 (by omega) (by omega), HX.out]; rfl), by (repeat' (first | (with_reducible exact Below.refl _ _) | (with_reducible assumption) | (with_reducible refine Below.alloc ?_ ?_ _) | (with_reducible refine below_drewN ?_ _) | (with_reducible refine Below.drew ?_) | (with_reducible refine Below.setCell ?_ ?_ _) | go_size))⟩
  · rcases Int.lt_trichotomy y1 y2 with hy | rfl | hy
    · have a1y : y1 ≤ y2 := by omega
      have a2y : ¬ y2 ≤ y1 := by omega
      cases hX : inB x x1 x1
      · have HX := Lib.hid hX
        clear hX
        go_enter Tryz.func21, Tryz.ntmps21
        go_wp2_with fail
        refine (x0.out _).mono ?_
        rintro e w1 ⟨rfl, hb1⟩
        have hB1 : Below w.heap.size w w1 := Below.trans (by (repeat' (first | (with_reducible exact Below.refl _ _) | (with_reducible assumption) | (with_reducible refine Below.alloc ?_ ?_ _) | (with_reducible refine below_drewN ?_ _) | (with_reducible refine Below.drew ?_) | (with_reducible refine Below.setCell ?_ ?_ _) | go_size))) (hb1.mono (by first | omega | (simp; done) | (simp; omega))); have hz1 := hb1.size; try simp at hz1
        have hl1a : w.heap.size < w1.heap.size := (by omega); have hx1a : w1.cell? ⟨w.heap.size, 0, none⟩ = some (.int .i64 x1) := (by rw [(hb1.cell (by first | omega | (simp; done) | (simp; omega)))]; (repeat (rw [World.cell?_alloc_lt _ _ _ (by first | omega | (simp; done) | (simp; omega))])); go_cell); have hy1a : w1.cell? ⟨w.heap.size, 1, none⟩ = some (.int .i64 y1) := (by rw [(hb1.cell (by first | omega | (simp; done) | (simp; omega)))]; (repeat (rw [World.cell?_alloc_lt _ _ _ (by first | omega | (simp; done) | (simp; omega))])); go_cell)
        have hl1b : w.heap.size + 1 < w1.heap.size := (by omega); have hx1b : w1.cell? ⟨w.heap.size + 1, 0, none⟩ = some (.int .i64 x1) := (by rw [(hb1.cell (by first | omega | (simp; done) | (simp; omega)))]; (repeat (rw [World.cell?_alloc_lt _ _ _ (by first | omega | (simp; done) | (simp; omega))])); go_cell); have hy1b : w1.cell? ⟨w.heap.size + 1, 1, none⟩ = some (.int .i64 y2) := (by rw [(hb1.cell (by first | omega | (simp; done) | (simp; omega)))]; (repeat (rw [World.cell?_alloc_lt _ _ _ (by first | omega | (simp; done) | (simp; omega))])); go_cell)
        have hl1p : w.heap.size + 1 + 1 < w1.heap.size := (by omega); have hx1p : w1.cell? ⟨w.heap.size + 1 + 1, 0, none⟩ = some (.int .i64 x) := (by rw [(hb1.cell (by first | omega | (simp; done) | (simp; omega)))]; (repeat (rw [World.cell?_alloc_lt _ _ _ (by first | omega | (simp; done) | (simp; omega))])); go_cell); have hy1p : w1.cell? ⟨w.heap.size + 1 + 1, 1, none⟩ = some (.int .i64 y) := (by rw [(hb1.cell (by first | omega | (simp; done) | (simp; omega)))]; (repeat (rw [World.cell?_alloc_lt _ _ _ (by first | omega | (simp; done) | (simp; omega))])); go_cell)
        go_wp2_with fail
        refine (Within_any _ _ _ _).mono ?_
        rintro e w2 ⟨rfl, rfl⟩
        rw [HX.out]
        go_wp2_with fail
        go_returns
        exact ⟨ret_b (by rw [HO.out x1 x1 y1 y2 (by omega) (by omega), HX.out]; rfl), by (repeat' (first | (with_reducible exact Below.refl _ _) | (with_reducible assumption) | (with_reducible refine Below.alloc ?_ ?_ _) | (with_reducible refine below_drewN ?_ _) | (with_reducible refine Below.drew ?_) | (with_reducible refine Below.setCell ?_ ?_ _) | go_size))⟩
      · have HX := Lib.hid hX
        clear hX
        go_enter Tryz.func21, Tryz.ntmps21
        go_wp2_with fail
        refine (x0.out _).mono ?_
        rintro e w1 ⟨rfl, hb1⟩
        have hB1 : Below w.heap.size w w1 := Below.trans (by (repeat' (first | (with_reducible exact Below.refl _ _) | (with_reducible assumption) | (with_reducible refine Below.alloc ?_ ?_ _) | (with_reducible refine below_drewN ?_ _) | (with_reducible refine Below.drew ?_) | (with_reducible refine Below.setCell ?_ ?_ _) | go_size))) (hb1.mono (by first | omega | (simp; done) | (simp; omega))); have hz1 := hb1.size; try simp at hz1
        have hl1a : w.heap.size < w1.heap.size := (by omega); have hx1a : w1.cell? ⟨w.heap.size, 0, none⟩ = some (.int .i64 x1) := (by rw [(hb1.cell (by first | omega | (simp; done) | (simp; omega)))]; (repeat (rw [World.cell?_alloc_lt _ _ _ (by first | omega | (simp; done) | (simp; omega))])); go_cell); have hy1a : w1.cell? ⟨w.heap.size, 1, none⟩ = some (.int .i64 y1) := (by rw [(hb1.cell (by first | omega | (simp; done) | (simp; omega)))]; (repeat (rw [World.cell?_alloc_lt _ _ _ (by first | omega | (simp; done) | (simp; omega))])); go_cell)
        have hl1b : w.heap.size + 1 < w1.heap.size := (by omega); have hx1b : w1.cell? ⟨w.heap.size + 1, 0, none⟩ = some (.int .i64 x1) := (by rw [(hb1.cell (by first | omega | (simp; done) | (simp; omega)))]; (repeat (rw [World.cell?_alloc_lt _ _ _ (by first | omega | (simp; done) | (simp; omega))])); go_cell); have hy1b : w1.cell? ⟨w.heap.size + 1, 1, none⟩ = some (.int .i64 y2) := (by rw [(hb1.cell (by first | omega | (simp; done) | (simp; omega)))]; (repeat (rw [World.cell?_alloc_lt _ _ _ (by first | omega | (simp; done) | (simp; omega))])); go_cell)
        have hl1p : w.heap.size + 1 + 1 < w1.heap.size := (by omega); have hx1p : w1.cell? ⟨w.heap.size + 1 + 1, 0, none⟩ = some (.int .i64 x) := (by rw [(hb1.cell (by first | omega | (simp; done) | (simp; omega)))]; (repeat (rw [World.cell?_alloc_lt _ _ _ (by first | omega | (simp; done) | (simp; omega))])); go_cell); have hy1p : w1.cell? ⟨w.heap.size + 1 + 1, 1, none⟩ = some (.int .i64 y) := (by rw [(hb1.cell (by first | omega | (simp; done) | (simp; omega)))]; (repeat (rw [World.cell?_alloc_lt _ _ _ (by first | omega | (simp; done) | (simp; omega))])); go_cell)
        go_wp2_with fail
        refine (Within_any _ _ _ _).mono ?_
        rintro e w2 ⟨rfl, rfl⟩
        rw [HX.out]
        go_wp2_with fail
        refine (Within_any _ _ _ _).mono ?_
        rintro e w2 ⟨rfl, rfl⟩
        go_wp2_with fail
        go_returns
        exact ⟨ret_b (by rw [HO.out x1 x1 y1 y2 (by omega) (by omega), HX.out]; rfl), by (repeat' (first | (with_reducible exact Below.refl _ _) | (with_reducible assumption) | (with_reducible refine Below.alloc ?_ ?_ _) | (with_reducible refine below_drewN ?_ _) | (with_reducible refine Below.drew ?_) | (with_reducible refine Below.setCell ?_ ?_ _) | go_size))⟩
    · cases hX : inB x x1 x1
      · have HX := Lib.hid hX
        clear hX
        go_enter Tryz.func21, Tryz.ntmps21
        go_wp2_with fail
        refine (x0.out _).mono ?_
        rintro e w1 ⟨rfl, hb1⟩
        have hB1 : Below w.heap.size w w1 := Below.trans (by (repeat' (first | (with_reducible exact Below.refl _ _) | (with_reducible assumption) | (with_reducible refine Below.alloc ?_ ?_ _) | (with_reducible refine below_drewN ?_ _) | (with_reducible refine Below.drew ?_) | (with_reducible refine Below.setCell ?_ ?_ _) | go_size))) (hb1.mono (by first | omega | (simp; done) | (simp; omega))); have hz1 := hb1.size; try simp at hz1
        have hl1a : w.heap.size < w1.heap.size := (by omega); have hx1a : w1.cell? ⟨w.heap.size, 0, none⟩ = some (.int .i64 x1) := (by rw [(hb1.cell (by first | omega | (simp; done) | (simp; omega)))]; (repeat (rw [World.cell?_alloc_lt _ _ _ (by first | omega | (simp; done) | (simp; omega))])); go_cell); have hy1a : w1.cell? ⟨w.heap.size, 1, none⟩ = some (.int .i64 y1) := (by rw [(hb1.cell (by first | omega | (simp; done) | (simp; omega)))]; (repeat (rw [World.cell?_alloc_lt _ _ _ (by first | omega | (simp; done) | (simp; omega))])); go_cell)
        have hl1b : w.heap.size + 1 < w1.heap.size := (by omega); have hx1b : w1.cell? ⟨w.heap.size + 1, 0, none⟩ = some (.int .i64 x1) := (by rw [(hb1.cell (by first | omega | (simp; done) | (simp; omega)))]; (repeat (rw [World.cell?_alloc_lt _ _ _ (by first | omega | (simp; done) | (simp; omega))])); go_cell); have hy1b : w1.cell? ⟨w.heap.size + 1, 1, none⟩ = some (.int .i64 y1) := (by rw [(hb1.cell (by first | omega | (simp; done) | (simp; omega)))]; (repeat (rw [World.cell?_alloc_lt _ _ _ (by first | omega | (simp; done) | (simp; omega))])); go_cell)
        have hl1p : w.heap.size + 1 + 1 < w1.heap.size := (by omega); have hx1p : w1.cell? ⟨w.heap.size + 1 + 1, 0, none⟩ = some (.int .i64 x) := (by rw [(hb1.cell (by first | omega | (simp; done) | (simp; omega)))]; (repeat (rw [World.cell?_alloc_lt _ _ _ (by first | omega | (simp; done) | (simp; omega))])); go_cell); have hy1p : w1.cell? ⟨w.heap.size + 1 + 1, 1, none⟩ = some (.int .i64 y) := (by rw [(hb1.cell (by first | omega | (simp; done) | (simp; omega)))]; (repeat (rw [World.cell?_alloc_lt _ _ _ (by first | omega | (simp; done) | (simp; omega))])); go_cell)
        go_wp2_with fail
        refine (Within_any _ _ _ _).mono ?_
        rintro e w2 ⟨rfl, rfl⟩
        rw [HX.out]
        go_wp2_with fail
        go_returns
        exact ⟨ret_b (by rw [HO.out x1 x1 y1 y1 (by omega) (by omega), HX.out]; rfl), by (repeat' (first | (with_reducible exact Below.refl _ _) | (with_reducible assumption) | (with_reducible refine Below.alloc ?_ ?_ _) | (with_reducible refine below_drewN ?_ _) | (with_reducible refine Below.drew ?_) | (with_reducible refine Below.setCell ?_ ?_ _) | go_size))⟩
      · have HX := Lib.hid hX
        clear hX
        go_enter Tryz.func21, Tryz.ntmps21
        go_wp2_with fail
        refine (x0.out _).mono ?_
        rintro e w1 ⟨rfl, hb1⟩
        have hB1 : Below w.heap.size w w1 := Below.trans (by (repeat' (first | (with_reducible exact Below.refl _ _) | (with_reducible assumption) | (with_reducible refine Below.alloc ?_ ?_ _) | (with_reducible refine below_drewN ?_ _) | (with_reducible refine Below.drew ?_) | (with_reducible refine Below.setCell ?_ ?_ _) | go_size))) (hb1.mono (by first | omega | (simp; done) | (simp; omega))); have hz1 := hb1.size; try simp at hz1
        have hl1a : w.heap.size < w1.heap.size := (by omega); have hx1a : w1.cell? ⟨w.heap.size, 0, none⟩ = some (.int .i64 x1) := (by rw [(hb1.cell (by first | omega | (simp; done) | (simp; omega)))]; (repeat (rw [World.cell?_alloc_lt _ _ _ (by first | omega | (simp; done) | (simp; omega))])); go_cell); have hy1a : w1.cell? ⟨w.heap.size, 1, none⟩ = some (.int .i64 y1) := (by rw [(hb1.cell (by first | omega | (simp; done) | (simp; omega)))]; (repeat (rw [World.cell?_alloc_lt _ _ _ (by first | omega | (simp; done) | (simp; omega))])); go_cell)
        have hl1b : w.heap.size + 1 < w1.heap.size := (by omega); have hx1b : w1.cell? ⟨w.heap.size + 1, 0, none⟩ = some (.int .i64 x1) := (by rw [(hb1.cell (by first | omega | (simp; done) | (simp; omega)))]; (repeat (rw [World.cell?_alloc_lt _ _ _ (by first | omega | (simp; done) | (simp; omega))])); go_cell); have hy1b : w1.cell? ⟨w.heap.size + 1, 1, none⟩ = some (.int .i64 y1) := (by rw [(hb1.cell (by first | omega | (simp; done) | (simp; omega)))]; (repeat (rw [World.cell?_alloc_lt _ _ _ (by first | omega | (simp; done) | (simp; omega))])); go_cell)
        have hl1p : w.heap.size + 1 + 1 < w1.heap.size := (by omega); have hx1p : w1.cell? ⟨w.heap.size + 1 + 1, 0, none⟩ = some (.int .i64 x) := (by rw [(hb1.cell (by first | omega | (simp; done) | (simp; omega)))]; (repeat (rw [World.cell?_alloc_lt _ _ _ (by first | omega | (simp; done) | (simp; omega))])); go_cell); have hy1p : w1.cell? ⟨w.heap.size + 1 + 1, 1, none⟩ = some (.int .i64 y) := (by rw [(hb1.cell (by first | omega | (simp; done) | (simp; omega)))]; (repeat (rw [World.cell?_alloc_lt _ _ _ (by first | omega | (simp; done) | (simp; omega))])); go_cell)
        go_wp2_with fail
        refine (Within_any _ _ _ _).mono ?_
        rintro e w2 ⟨rfl, rfl⟩
        rw [HX.out]
        go_wp2_with fail
        refine (Within_any _ _ _ _).mono ?_
        rintro e w2 ⟨rfl, rfl⟩
        go_wp2_with fail
        go_returns
        exact ⟨ret_b (by rw [HO.out x1 x1 y1 y1 (by omega) (by omega), HX.out]; rfl), by (repeat' (first | (with_reducible exact Below.refl _ _) | (with_reducible assumption) | (with_reducible refine Below.alloc ?_ ?_ _) | (with_reducible refine below_drewN ?_ _) | (with_reducible refine Below.drew ?_) | (with_reducible refine Below.setCell ?_ ?_ _) | go_size))⟩
    · have a1y : ¬ y1 ≤ y2 := by omega
      have a2y : y2 ≤ y1 := by omega
      cases hX : inB x x1 x1
      · have HX := Lib.hid hX
        clear hX
        go_enter Tryz.func21, Tryz.ntmps21
        go_wp2_with fail
        refine (x0.out _).mono ?_
        rintro e w1 ⟨rfl, hb1⟩
        have hB1 : Below w.heap.size w w1 := Below.trans (by (repeat' (first | (with_reducible exact Below.refl _ _) | (with_reducible assumption) | (with_reducible refine Below.alloc ?_ ?_ _) | (with_reducible refine below_drewN ?_ _) | (with_reducible refine Below.drew ?_) | (with_reducible refine Below.setCell ?_ ?_ _) | go_size))) (hb1.mono (by first | omega | (simp; done) | (simp; omega))); have hz1 := hb1.size; try simp at hz1
        have hl1a : w.heap.size < w1.heap.size := (by omega); have hx1a : w1.cell? ⟨w.heap.size, 0, none⟩ = some (.int .i64 x1) := (by rw [(hb1.cell (by first | omega | (simp; done) | (simp; omega)))]; (repeat (rw [World.cell?_alloc_lt _ _ _ (by first | omega | (simp; done) | (simp; omega))])); go_cell); have hy1a : w1.cell? ⟨w.heap.size, 1, none⟩ = some (.int .i64 y1) := (by rw [(hb1.cell (by first | omega | (simp; done) | (simp; omega)))]; (repeat (rw [World.cell?_alloc_lt _ _ _ (by first | omega | (simp; done) | (simp; omega))])); go_cell)
        have hl1b : w.heap.size + 1 < w1.heap.size := (by omega); have hx1b : w1.cell? ⟨w.heap.size + 1, 0, none⟩ = some (.int .i64 x1) := (by rw [(hb1.cell (by first | omega | (simp; done) | (simp; omega)))]; (repeat (rw [World.cell?_alloc_lt _ _ _ (by first | omega | (simp; done) | (simp; omega))])); go_cell); have hy1b : w1.cell? ⟨w.heap.size + 1, 1, none⟩ = some (.int .i64 y2) := (by rw [(hb1.cell (by first | omega | (simp; done) | (simp; omega)))]; (repeat (rw [World.cell?_alloc_lt _ _ _ (by first | omega | (simp; done) | (simp; omega))])); go_cell)
        have hl1p : w.heap.size + 1 + 1 < w1.heap.size := (by omega); have hx1p : w1.cell? ⟨w.heap.size + 1 + 1, 0, none⟩ = some (.int .i64 x) := (by rw [(hb1.cell (by first | omega | (simp; done) | (simp; omega)))]; (repeat (rw [World.cell?_alloc_lt _ _ _ (by first | omega | (simp; done) | (simp; omega))])); go_cell); have hy1p : w1.cell? ⟨w.heap.size + 1 + 1, 1, none⟩ = some (.int .i64 y) := (by rw [(hb1.cell (by first | omega | (simp; done) | (simp; omega)))]; (repeat (rw [World.cell?_alloc_lt _ _ _ (by first | omega | (simp; done) | (simp; omega))])); go_cell)
        go_wp2_with fail
        refine (Within_any _ _ _ _).mono ?_
        rintro e w2 ⟨rfl, rfl⟩
        rw [HX.out]
        go_wp2_with fail
        go_returns
        exact ⟨ret_b (by rw [HO.out x1 x1 y2 y1 (by omega) (by omega), HX.out]; rfl), by (repeat' (first | (with_reducible exact Below.refl _ _) | (with_reducible assumption) | (with_reducible refine Below.alloc ?_ ?_ _) | (with_reducible refine below_drewN ?_ _) | (with_reducible refine Below.drew ?_) | (with_reducible refine Below.setCell ?_ ?_ _) | go_size))⟩
      · have HX := Lib.hid hX
        clear hX
        go_enter Tryz.func21, Tryz.ntmps21
        go_wp2_with fail
        refine (x0.out _).mono ?_
        rintro e w1 ⟨rfl, hb1⟩
        have hB1 : Below w.heap.size w w1 := Below.trans (by (repeat' (first | (with_reducible exact Below.refl _ _) | (with_reducible assumption) | (with_reducible refine Below.alloc ?_ ?_ _) | (with_reducible refine below_drewN ?_ _) | (with_reducible refine Below.drew ?_) | (with_reducible refine Below.setCell ?_ ?_ _) | go_size))) (hb1.mono (by first | omega | (simp; done) | (simp; omega))); have hz1 := hb1.size; try simp at hz1
        have hl1a : w.heap.size < w1.heap.size := (by omega); have hx1a : w1.cell? ⟨w.heap.size, 0, none⟩ = some (.int .i64 x1) := (by rw [(hb1.cell (by first | omega | (simp; done) | (simp; omega)))]; (repeat (rw [World.cell?_alloc_lt _ _ _ (by first | omega | (simp; done) | (simp; omega))])); go_cell); have hy1a : w1.cell? ⟨w.heap.size, 1, none⟩ = some (.int .i64 y1) := (by rw [(hb1.cell (by first | omega | (simp; done) | (simp; omega)))]; (repeat (rw [World.cell?_alloc_lt _ _ _ (by first | omega | (simp; done) | (simp; omega))])); go_cell)
        have hl1b : w.heap.size + 1 < w1.heap.size := (by omega); have hx1b : w1.cell? ⟨w.heap.size + 1, 0, none⟩ = some (.int .i64 x1) := (by rw [(hb1.cell (by first | omega | (simp; done) | (simp; omega)))]; (repeat (rw [World.cell?_alloc_lt _ _ _ (by first | omega | (simp; done) | (simp; omega))])); go_cell); have hy1b : w1.cell? ⟨w.heap.size + 1, 1, none⟩ = some (.int .i64 y2) := (by rw [(hb1.cell (by first | omega | (simp; done) | (simp; omega)))]; (repeat (rw [World.cell?_alloc_lt _ _ _ (by first | omega | (simp; done) | (simp; omega))])); go_cell)
        have hl1p : w.heap.size + 1 + 1 < w1.heap.size := (by omega); have hx1p : w1.cell? ⟨w.heap.size + 1 + 1, 0, none⟩ = some (.int .i64 x) := (by rw [(hb1.cell (by first | omega | (simp; done) | (simp; omega)))]; (repeat (rw [World.cell?_alloc_lt _ _ _ (by first | omega | (simp; done) | (simp; omega))])); go_cell); have hy1p : w1.cell? ⟨w.heap.size + 1 + 1, 1, none⟩ = some (.int .i64 y) := (by rw [(hb1.cell (by first | omega | (simp; done) | (simp; omega)))]; (repeat (rw [World.cell?_alloc_lt _ _ _ (by first | omega | (simp; done) | (simp; omega))])); go_cell)
        go_wp2_with fail
        refine (Within_any _ _ _ _).mono ?_
        rintro e w2 ⟨rfl, rfl⟩
        rw [HX.out]
        go_wp2_with fail
        refine (Within_any _ _ _ _).mono ?_
        rintro e w2 ⟨rfl, rfl⟩
        go_wp2_with fail
        go_returns
        exact ⟨ret_b (by rw [HO.out x1 x1 y2 y1 (by omega) (by omega), HX.out]; rfl), by (repeat' (first | (with_reducible exact Below.refl _ _) | (with_reducible assumption) | (with_reducible refine Below.alloc ?_ ?_ _) | (with_reducible refine below_drewN ?_ _) | (with_reducible refine Below.drew ?_) | (with_reducible refine Below.setCell ?_ ?_ _) | go_size))⟩
  · have a1x : ¬ x1 ≤ x2 := by omega
    have a2x : x2 ≤ x1 := by omega
    rcases Int.lt_trichotomy y1 y2 with hy | rfl | hy
    · have a1y : y1 ≤ y2 := by omega
      have a2y : ¬ y2 ≤ y1 := by omega
      cases hX : inB x x2 x1
      · have HX := Lib.hid hX
        clear hX
        go_enter Tryz.func21, Tryz.ntmps21
        go_wp2_with fail
        refine (x0.out _).mono ?_
        rintro e w1 ⟨rfl, hb1⟩
        have hB1 : Below w.heap.size w w1 := Below.trans (by (repeat' (first | (with_reducible exact Below.refl _ _) | (with_reducible assumption) | (with_reducible refine Below.alloc ?_ ?_ _) | (with_reducible refine below_drewN ?_ _) | (with_reducible refine Below.drew ?_) | (with_reducible refine Below.setCell ?_ ?_ _) | go_size))) (hb1.mono (by first | omega | (simp; done) | (simp; omega))); have hz1 := hb1.size; try simp at hz1
        have hl1a : w.heap.size < w1.heap.size := (by omega); have hx1a : w1.cell? ⟨w.heap.size, 0, none⟩ = some (.int .i64 x1) := (by rw [(hb1.cell (by first | omega | (simp; done) | (simp; omega)))]; (repeat (rw [World.cell?_alloc_lt _ _ _ (by first | omega | (simp; done) | (simp; omega))])); go_cell); have hy1a : w1.cell? ⟨w.heap.size, 1, none⟩ = some (.int .i64 y1) := (by rw [(hb1.cell (by first | omega | (simp; done) | (simp; omega)))]; (repeat (rw [World.cell?_alloc_lt _ _ _ (by first | omega | (simp; done) | (simp; omega))])); go_cell)
        have hl1b : w.heap.size + 1 < w1.heap.size := (by omega); have hx1b : w1.cell? ⟨w.heap.size + 1, 0, none⟩ = some (.int .i64 x2) := (by rw [(hb1.cell (by first | omega | (simp; done) | (simp; omega)))]; (repeat (rw [World.cell?_alloc_lt _ _ _ (by first | omega | (simp; done) | (simp; omega))])); go_cell); have hy1b : w1.cell? ⟨w.heap.size + 1, 1, none⟩ = some (.int .i64 y2) := (by rw [(hb1.cell (by first | omega | (simp; done) | (simp; omega)))]; (repeat (rw [World.cell?_alloc_lt _ _ _ (by first | omega | (simp; done) | (simp; omega))])); go_cell)
        have hl1p : w.heap.size + 1 + 1 < w1.heap.size := (by omega); have hx1p : w1.cell? ⟨w.heap.size + 1 + 1, 0, none⟩ = some (.int .i64 x) := (by rw [(hb1.cell (by first | omega | (simp; done) | (simp; omega)))]; (repeat (rw [World.cell?_alloc_lt _ _ _ (by first | omega | (simp; done) | (simp; omega))])); go_cell); have hy1p : w1.cell? ⟨w.heap.size + 1 + 1, 1, none⟩ = some (.int .i64 y) := (by rw [(hb1.cell (by first | omega | (simp; done) | (simp; omega)))]; (repeat (rw [World.cell?_alloc_lt _ _ _ (by first | omega | (simp; done) | (simp; omega))])); go_cell)
        go_wp2_with fail
        refine (Within_any _ _ _ _).mono ?_
        rintro e w2 ⟨rfl, rfl⟩
        rw [HX.out]
        go_wp2_with fail
        go_returns
        exact ⟨ret_b (by rw [HO.out x2 x1 y1 y2 (by omega) (by omega), HX.out]; rfl), by (repeat' (first | (with_reducible exact Below.refl _ _) | (with_reducible assumption) | (with_reducible refine Below.alloc ?_ ?_ _) | (with_reducible refine below_drewN ?_ _) | (with_reducible refine Below.drew ?_) | (with_reducible refine Below.setCell ?_ ?_ _) | go_size))⟩
      · have HX := Lib.hid hX
        clear hX
        go_enter Tryz.func21, Tryz.ntmps21
        go_wp2_with fail
        refine (x0.out _).mono ?_
        rintro e w1 ⟨rfl, hb1⟩
        have hB1 : Below w.heap.size w w1 := Below.trans (by (repeat' (first | (with_reducible exact Below.refl _ _) | (with_reducible assumption) | (with_reducible refine Below.alloc ?_ ?_ _) | (with_reducible refine below_drewN ?_ _) | (with_reducible refine Below.drew ?_) | (with_reducible refine Below.setCell ?_ ?_ _) | go_size))) (hb1.mono (by first | omega | (simp; done) | (simp; omega))); have hz1 := hb1.size; try simp at hz1
        have hl1a : w.heap.size < w1.heap.size := (by omega); have hx1a : w1.cell? ⟨w.heap.size, 0, none⟩ = some (.int .i64 x1) := (by rw [(hb1.cell (by first | omega | (simp; done) | (simp; omega)))]; (repeat (rw [World.cell?_alloc_lt _ _ _ (by first | omega | (simp; done) | (simp; omega))])); go_cell); have hy1a : w1.cell? ⟨w.heap.size, 1, none⟩ = some (.int .i64 y1) := (by rw [(hb1.cell (by first | omega | (simp; done) | (simp; omega)))]; (repeat (rw [World.cell?_alloc_lt _ _ _ (by first | omega | (simp; done) | (simp; omega))])); go_cell)
        have hl1b : w.heap.size + 1 < w1.heap.size := (by omega); have hx1b : w1.cell? ⟨w.heap.size + 1, 0, none⟩ = some (.int .i64 x2) := (by rw [(hb1.cell (by first | omega | (simp; done) | (simp; omega)))]; (repeat (rw [World.cell?_alloc_lt _ _ _ (by first | omega | (simp; done) | (simp; omega))])); go_cell); have hy1b : w1.cell? ⟨w.heap.size + 1, 1, none⟩ = some (.int .i64 y2) := (by rw [(hb1.cell (by first | omega | (simp; done) | (simp; omega)))]; (repeat (rw [World.cell?_alloc_lt _ _ _ (by first | omega | (simp; done) | (simp; omega))])); go_cell)
        have hl1p : w.heap.size + 1 + 1 < w1.heap.size := (by omega); have hx1p : w1.cell? ⟨w.heap.size + 1 + 1, 0, none⟩ = some (.int .i64 x) := (by rw [(hb1.cell (by first | omega | (simp; done) | (simp; omega)))]; (repeat (rw [World.cell?_alloc_lt _ _ _ (by first | omega | (simp; done) | (simp; omega))])); go_cell); have hy1p : w1.cell? ⟨w.heap.size + 1 + 1, 1, none⟩ = some (.int .i64 y) := (by rw [(hb1.cell (by first | omega | (simp; done) | (simp; omega)))]; (repeat (rw [World.cell?_alloc_lt _ _ _ (by first | omega | (simp; done) | (simp; omega))])); go_cell)
        go_wp2_with fail
        refine (Within_any _ _ _ _).mono ?_
        rintro e w2 ⟨rfl, rfl⟩
        rw [HX.out]
        go_wp2_with fail
        refine (Within_any _ _ _ _).mono ?_
        rintro e w2 ⟨rfl, rfl⟩
        go_wp2_with fail
        go_returns
        exact ⟨ret_b (by rw [HO.out x2 x1 y1 y2 (by omega) (by omega), HX.out]; rfl), by (repeat' (first | (with_reducible exact Below.refl _ _) | (with_reducible assumption) | (with_reducible refine Below.alloc ?_ ?_ _) | (with_reducible refine below_drewN ?_ _) | (with_reducible refine Below.drew ?_) | (with_reducible refine Below.setCell ?_ ?_ _) | go_size))⟩
    · cases hX : inB x x2 x1
      · have HX := Lib.hid hX
        clear hX
        go_enter Tryz.func21, Tryz.ntmps21
        go_wp2_with fail
        refine (x0.out _).mono ?_
        rintro e w1 ⟨rfl, hb1⟩
        have hB1 : Below w.heap.size w w1 := Below.trans (by (repeat' (first | (with_reducible exact Below.refl _ _) | (with_reducible assumption) | (with_reducible refine Below.alloc ?_ ?_ _) | (with_reducible refine below_drewN ?_ _) | (with_reducible refine Below.drew ?_) | (with_reducible refine Below.setCell ?_ ?_ _) | go_size))) (hb1.mono (by first | omega | (simp; done) | (simp; omega))); have hz1 := hb1.size; try simp at hz1
        have hl1a : w.heap.size < w1.heap.size := (by omega); have hx1a : w1.cell? ⟨w.heap.size, 0, none⟩ = some (.int .i64 x1) := (by rw [(hb1.cell (by first | omega | (simp; done) | (simp; omega)))]; (repeat (rw [World.cell?_alloc_lt _ _ _ (by first | omega | (simp; done) | (simp; omega))])); go_cell); have hy1a : w1.cell? ⟨w.heap.size, 1, none⟩ = some (.int .i64 y1) := (by rw [(hb1.cell (by first | omega | (simp; done) | (simp; omega)))]; (repeat (rw [World.cell?_alloc_lt _ _ _ (by first | omega | (simp; done) | (simp; omega))])); go_cell)
        have hl1b : w.heap.size + 1 < w1.heap.size := (by omega); have hx1b : w1.cell? ⟨w.heap.size + 1, 0, none⟩ = some (.int .i64 x2) := (by rw [(hb1.cell (by first | omega | (simp; done) | (simp; omega)))]; (repeat (rw [World.cell?_alloc_lt _ _ _ (by first | omega | (simp; done) | (simp; omega))])); go_cell); have hy1b : w1.cell? ⟨w.heap.size + 1, 1, none⟩ = some (.int .i64 y1) := (by rw [(hb1.cell (by first | omega | (simp; done) | (simp; omega)))]; (repeat (rw [World.cell?_alloc_lt _ _ _ (by first | omega | (simp; done) | (simp; omega))])); go_cell)
        have hl1p : w.heap.size + 1 + 1 < w1.heap.size := (by omega); have hx1p : w1.cell? ⟨w.heap.size + 1 + 1, 0, none⟩ = some (.int .i64 x) := (by rw [(hb1.cell (by first | omega | (simp; done) | (simp; omega)))]; (repeat (rw [World.cell?_alloc_lt _ _ _ (by first | omega | (simp; done) | (simp; omega))])); go_cell); have hy1p : w1.cell? ⟨w.heap.size + 1 + 1, 1, none⟩ = some (.int .i64 y) := (by rw [(hb1.cell (by first | omega | (simp; done) | (simp; omega)))]; (repeat (rw [World.cell?_alloc_lt _ _ _ (by first | omega | (simp; done) | (simp; omega))])); go_cell)
        go_wp2_with fail
        refine (Within_any _ _ _ _).mono ?_
        rintro e w2 ⟨rfl, rfl⟩
        rw [HX.out]
        go_wp2_with fail
        go_returns
        exact ⟨ret_b (by rw [HO.out x2 x1 y1 y1 (by omega) (by omega), HX.out]; rfl), by (repeat' (first | (with_reducible exact Below.refl _ _) | (with_reducible assumption) | (with_reducible refine Below.alloc ?_ ?_ _) | (with_reducible refine below_drewN ?_ _) | (with_reducible refine Below.drew ?_) | (with_reducible refine Below.setCell ?_ ?_ _) | go_size))⟩
      · have HX := Lib.hid hX
        clear hX
        go_enter Tryz.func21, Tryz.ntmps21
        go_wp2_with fail
        refine (x0.out _).mono ?_
        rintro e w1 ⟨rfl, hb1⟩
        have hB1 : Below w.heap.size w w1 := Below.trans (by (repeat' (first | (with_reducible exact Below.refl _ _) | (with_reducible assumption) | (with_reducible refine Below.alloc ?_ ?_ _) | (with_reducible refine below_drewN ?_ _) | (with_reducible refine Below.drew ?_) | (with_reducible refine Below.setCell ?_ ?_ _) | go_size))) (hb1.mono (by first | omega | (simp; done) | (simp; omega))); have hz1 := hb1.size; try simp at hz1
        have hl1a : w.heap.size < w1.heap.size := (by omega); have hx1a : w1.cell? ⟨w.heap.size, 0, none⟩ = some (.int .i64 x1) := (by rw [(hb1.cell (by first | omega | (simp; done) | (simp; omega)))]; (repeat (rw [World.cell?_alloc_lt _ _ _ (by first | omega | (simp; done) | (simp; omega))])); go_cell); have hy1a : w1.cell? ⟨w.heap.size, 1, none⟩ = some (.int .i64 y1) := (by rw [(hb1.cell (by first | omega | (simp; done) | (simp; omega)))]; (repeat (rw [World.cell?_alloc_lt _ _ _ (by first | omega | (simp; done) | (simp; omega))])); go_cell)
        have hl1b : w.heap.size + 1 < w1.heap.size := (by omega); have hx1b : w1.cell? ⟨w.heap.size + 1, 0, none⟩ = some (.int .i64 x2) := (by rw [(hb1.cell (by first | omega | (simp; done) | (simp; omega)))]; (repeat (rw [World.cell?_alloc_lt _ _ _ (by first | omega | (simp; done) | (simp; omega))])); go_cell); have hy1b : w1.cell? ⟨w.heap.size + 1, 1, none⟩ = some (.int .i64 y1) := (by rw [(hb1.cell (by first | omega | (simp; done) | (simp; omega)))]; (repeat (rw [World.cell?_alloc_lt _ _ _ (by first | omega | (simp; done) | (simp; omega))])); go_cell)
        have hl1p : w.heap.size + 1 + 1 < w1.heap.size := (by omega); have hx1p : w1.cell? ⟨w.heap.size + 1 + 1, 0, none⟩ = some (.int .i64 x) := (by rw [(hb1.cell (by first | omega | (simp; done) | (simp; omega)))]; (repeat (rw [World.cell?_alloc_lt _ _ _ (by first | omega | (simp; done) | (simp; omega))])); go_cell); have hy1p : w1.cell? ⟨w.heap.size + 1 + 1, 1, none⟩ = some (.int .i64 y) := (by rw [(hb1.cell (by first | omega | (simp; done) | (simp; omega)))]; (repeat (rw [World.cell?_alloc_lt _ _ _ (by first | omega | (simp; done) | (simp; omega))])); go_cell)
        go_wp2_with fail
        refine (Within_any _ _ _ _).mono ?_
        rintro e w2 ⟨rfl, rfl⟩
        rw [HX.out]
        go_wp2_with fail
        refine (Within_any _ _ _ _).mono ?_
        rintro e w2 ⟨rfl, rfl⟩
        go_wp2_with fail
        go_returns
        exact ⟨ret_b (by rw [HO.out x2 x1 y1 y1 (by omega) (by omega), HX.out]; rfl), by (repeat' (first | (with_reducible exact Below.refl _ _) | (with_reducible assumption) | (with_reducible refine Below.alloc ?_ ?_ _) | (with_reducible refine below_drewN ?_ _) | (with_reducible refine Below.drew ?_) | (with_reducible refine Below.setCell ?_ ?_ _) | go_size))⟩
    · have a1y : ¬ y1 ≤ y2 := by omega
      have a2y : y2 ≤ y1 := by omega
      cases hX : inB x x2 x1
      · have HX := Lib.hid hX
        clear hX
        go_enter Tryz.func21, Tryz.ntmps21
        go_wp2_with fail
        refine (x0.out _).mono ?_
        rintro e w1 ⟨rfl, hb1⟩
        have hB1 : Below w.heap.size w w1 := Below.trans (by (repeat' (first | (with_reducible exact Below.refl _ _) | (with_reducible assumption) | (with_reducible refine Below.alloc ?_ ?_ _) | (with_reducible refine below_drewN ?_ _) | (with_reducible refine Below.drew ?_) | (with_reducible refine Below.setCell ?_ ?_ _) | go_size))) (hb1.mono (by first | omega | (simp; done) | (simp; omega))); have hz1 := hb1.size; try simp at hz1
        have hl1a : w.heap.size < w1.heap.size := (by omega); have hx1a : w1.cell? ⟨w.heap.size, 0, none⟩ = some (.int .i64 x1) := (by rw [(hb1.cell (by first | omega | (simp; done) | (simp; omega)))]; (repeat (rw [World.cell?_alloc_lt _ _ _ (by first | omega | (simp; done) | (simp; omega))])); go_cell); have hy1a : w1.cell? ⟨w.heap.size, 1, none⟩ = some (.int .i64 y1) := (by rw [(hb1.cell (by first | omega | (simp; done) | (simp; omega)))]; (repeat (rw [World.cell?_alloc_lt _ _ _ (by first | omega | (simp; done) | (simp; omega))])); go_cell)
        have hl1b : w.heap.size + 1 < w1.heap.size := (by omega); have hx1b : w1.cell? ⟨w.heap.size + 1, 0, none⟩ = some (.int .i64 x2) := (by rw [(hb1.cell (by first | omega | (simp; done) | (simp; omega)))]; (repeat (rw [World.cell?_alloc_lt _ _ _ (by first | omega | (simp; done) | (simp; omega))])); go_cell); have hy1b : w1.cell? ⟨w.heap.size + 1, 1, none⟩ = some (.int .i64 y2) := (by rw [(hb1.cell (by first | omega | (simp; done) | (simp; omega)))]; (repeat (rw [World.cell?_alloc_lt _ _ _ (by first | omega | (simp; done) | (simp; omega))])); go_cell)
        have hl1p : w.heap.size + 1 + 1 < w1.heap.size := (by omega); have hx1p : w1.cell? ⟨w.heap.size + 1 + 1, 0, none⟩ = some (.int .i64 x) := (by rw [(hb1.cell (by first | omega | (simp; done) | (simp; omega)))]; (repeat (rw [World.cell?_alloc_lt _ _ _ (by first | omega | (simp; done) | (simp; omega))])); go_cell); have hy1p : w1.cell? ⟨w.heap.size + 1 + 1, 1, none⟩ = some (.int .i64 y) := (by rw [(hb1.cell (by first | omega | (simp; done) | (simp; omega)))]; (repeat (rw [World.cell?_alloc_lt _ _ _ (by first | omega | (simp; done) | (simp; omega))])); go_cell)
        go_wp2_with fail
        refine (Within_any _ _ _ _).mono ?_
        rintro e w2 ⟨rfl, rfl⟩
        rw [HX.out]
        go_wp2_with fail
        go_returns
        exact ⟨ret_b (by rw [HO.out x2 x1 y2 y1 (by omega) (by omega), HX.out]; rfl), by (repeat' (first | (with_reducible exact Below.refl _ _) | (with_reducible assumption) | (with_reducible refine Below.alloc ?_ ?_ _) | (with_reducible refine below_drewN ?_ _) | (with_reducible refine Below.drew ?_) | (with_reducible refine Below.setCell ?_ ?_ _) | go_size))⟩
      · have HX := Lib.hid hX
        clear hX
        go_enter Tryz.func21, Tryz.ntmps21
        go_wp2_with fail
        refine (x0.out _).mono ?_
        rintro e w1 ⟨rfl, hb1⟩
        have hB1 : Below w.heap.size w w1 := Below.trans (by (repeat' (first | (with_reducible exact Below.refl _ _) | (with_reducible assumption) | (with_reducible refine Below.alloc ?_ ?_ _) | (with_reducible refine below_drewN ?_ _) | (with_reducible refine Below.drew ?_) | (with_reducible refine Below.setCell ?_ ?_ _) | go_size))) (hb1.mono (by first | omega | (simp; done) | (simp; omega))); have hz1 := hb1.size; try simp at hz1
        have hl1a : w.heap.size < w1.heap.size := (by omega); have hx1a : w1.cell? ⟨w.heap.size, 0, none⟩ = some (.int .i64 x1) := (by rw [(hb1.cell (by first | omega | (simp; done) | (simp; omega)))]; (repeat (rw [World.cell?_alloc_lt _ _ _ (by first | omega | (simp; done) | (simp; omega))])); go_cell); have hy1a : w1.cell? ⟨w.heap.size, 1, none⟩ = some (.int .i64 y1) := (by rw [(hb1.cell (by first | omega | (simp; done) | (simp; omega)))]; (repeat (rw [World.cell?_alloc_lt _ _ _ (by first | omega | (simp; done) | (simp; omega))])); go_cell)
        have hl1b : w.heap.size + 1 < w1.heap.size := (by omega); have hx1b : w1.cell? ⟨w.heap.size + 1, 0, none⟩ = some (.int .i64 x2) := (by rw [(hb1.cell (by first | omega | (simp; done) | (simp; omega)))]; (repeat (rw [World.cell?_alloc_lt _ _ _ (by first | omega | (simp; done) | (simp; omega))])); go_cell); have hy1b : w1.cell? ⟨w.heap.size + 1, 1, none⟩ = some (.int .i64 y2) := (by rw [(hb1.cell (by first | omega | (simp; done) | (simp; omega)))]; (repeat (rw [World.cell?_alloc_lt _ _ _ (by first | omega | (simp; done) | (simp; omega))])); go_cell)
        have hl1p : w.heap.size + 1 + 1 < w1.heap.size := (by omega); have hx1p : w1.cell? ⟨w.heap.size + 1 + 1, 0, none⟩ = some (.int .i64 x) := (by rw [(hb1.cell (by first | omega | (simp; done) | (simp; omega)))]; (repeat (rw [World.cell?_alloc_lt _ _ _ (by first | omega | (simp; done) | (simp; omega))])); go_cell); have hy1p : w1.cell? ⟨w.heap.size + 1 + 1, 1, none⟩ = some (.int .i64 y) := (by rw [(hb1.cell (by first | omega | (simp; done) | (simp; omega)))]; (repeat (rw [World.cell?_alloc_lt _ _ _ (by first | omega | (simp; done) | (simp; omega))])); go_cell)
        go_wp2_with fail
        refine (Within_any _ _ _ _).mono ?_
        rintro e w2 ⟨rfl, rfl⟩
        rw [HX.out]
        go_wp2_with fail
        refine (Within_any _ _ _ _).mono ?_
        rintro e w2 ⟨rfl, rfl⟩
        go_wp2_with fail
        go_returns
        exact ⟨ret_b (by rw [HO.out x2 x1 y2 y1 (by omega) (by omega), HX.out]; rfl), by (repeat' (first | (with_reducible exact Below.refl _ _) | (with_reducible assumption) | (with_reducible refine Below.alloc ?_ ?_ _) | (with_reducible refine below_drewN ?_ _) | (with_reducible refine Below.drew ?_) | (with_reducible refine Below.setCell ?_ ?_ _) | go_size))⟩

set_option maxHeartbeats 1000000 in
theorem On_any (x1 y1 x2 y2 x y : Int) (w : World) (h1 : Geo.sm (x1, y1)) (h2 : Geo.sm (x2, y2)) (h3 : Geo.sm (x, y)) :
    Calls Tryz.prog 21 #[.agg #[.int .i64 x1, .int .i64 y1], .agg #[.int .i64 x2, .int .i64 y2], .agg #[.int .i64 x, .int .i64 y]] w
      fun e w' => e = .returned (.bool (Geo.onB (x1, y1) (x2, y2) (x, y))) ∧ Below w.heap.size w w' := by
  have x0 : Hid (∀ W, Calls Tryz.prog 43 #[.agg #[.int .i64 x1, .int .i64 y1], .agg #[.int .i64 x2, .int .i64 y2], .agg #[.int .i64 x, .int .i64 y]] W fun e w' => e = .returned (.int .i64 (Geo.turn (x1, y1) (x2, y2) (x, y))) ∧ Below W.heap.size W w') := fun W => Turn_any x1 y1 x2 y2 x y W h1 h2 h3
  have HO : Hid (Geo.onB (x1, y1) (x2, y2) (x, y) = (decide (Geo.turn (x1, y1) (x2, y2) (x, y) = 0) && (Geo.btwB x1 x x2 && Geo.btwB y1 y y2))) := rfl
  generalize Geo.onB (x1, y1) (x2, y2) (x, y) = V at *
  generalize Geo.turn (x1, y1) (x2, y2) (x, y) = T at *
  clear h1 h2 h3
  by_cases hT : T = 0
  · have hB : (T == 0) = true := by simpa using hT
    have hD : Hid (decide (T = 0) = true) := by simpa [Hid] using hT
    rw [show V = (Geo.btwB x1 x x2 && Geo.btwB y1 y y2) by rw [HO.out, hD.out]; rfl]
    exact On_yes x1 y1 x2 y2 x y T w hB x0
  · have hB : (T == 0) = false := by simpa using hT
    have hD : Hid (decide (T = 0) = false) := by simpa [Hid] using hT
    clear hT
    go_enter Tryz.func21, Tryz.ntmps21
    go_wp2_with fail
    refine (x0.out _).mono ?_
    rintro e w1 ⟨rfl, hb1⟩
    have hB1 : Below w.heap.size w w1 := Below.trans (by (repeat' (first | (with_reducible exact Below.refl _ _) | (with_reducible assumption) | (with_reducible refine Below.alloc ?_ ?_ _) | (with_reducible refine below_drewN ?_ _) | (with_reducible refine Below.drew ?_) | (with_reducible refine Below.setCell ?_ ?_ _) | go_size))) (hb1.mono (by first | omega | (simp; done) | (simp; omega))); have hz1 := hb1.size; try simp at hz1
    go_wp2_with fail
    go_returns
    exact ⟨ret_b (by rw [HO.out, hD.out]; rfl), by (repeat' (first | (with_reducible exact Below.refl _ _) | (with_reducible assumption) | (with_reducible refine Below.alloc ?_ ?_ _) | (with_reducible refine below_drewN ?_ _) | (with_reducible refine Below.drew ?_) | (with_reducible refine Below.setCell ?_ ?_ _) | go_size))⟩
end Go.Proofs.YtmjcdggmofohcaaGreat
