/- The law's own small functions of three ratios: whether all are valid, and whether one is reduced. -/
import Derived.Test.YtfjcmmdfipppoaaArmsO
import Derived.Test.YtfjcmmdfipppoaaArmsE
import Derived.Deep.RegionHeld3
namespace Go.Proofs.Ytfjcmmdfipppoaa
open Go.RowKit

set_option maxHeartbeats 1000000 in
theorem valid_any (a b c d e f : Int) (w : World) :
    Calls Try.prog 38 #[.agg #[.int .i64 a, .int .i64 b, .int .i64 c, .int .i64 d, .int .i64 e, .int .i64 f]] w fun x w' => x = .returned (.bool (Arm.okB a b && Arm.okB c d && Arm.okB e f)) ∧ Below w.heap.size w w' := by
  cases h1 : Arm.okB a b
  · go_enter Try.func38, Try.ntmps38
    go_wp2_with fail
    refine (IsRatio_any a b _).mono ?_
    rintro x w1 ⟨rfl, hb1⟩
    have hB1 : Below w.heap.size w w1 := Below.trans (by (repeat' (first | (with_reducible exact Below.refl _ _) | (with_reducible assumption) | (with_reducible refine Below.alloc ?_ ?_ _) | (with_reducible refine below_drewN ?_ _) | (with_reducible refine Below.drew ?_) | (with_reducible refine Below.setCell ?_ ?_ _) | go_size))) (hb1.mono (by first | omega | (simp; done) | (simp; omega))); have hz1 := hb1.size; try simp at hz1
    go_wp2_with fail
    go_returns
    exact ⟨ret_b (by simp), hB1⟩
  · cases h2 : Arm.okB c d
    · go_enter Try.func38, Try.ntmps38
      go_wp2_with fail
      refine (IsRatio_any a b _).mono ?_
      rintro x w1 ⟨rfl, hb1⟩
      have hB1 : Below w.heap.size w w1 := Below.trans (by (repeat' (first | (with_reducible exact Below.refl _ _) | (with_reducible assumption) | (with_reducible refine Below.alloc ?_ ?_ _) | (with_reducible refine below_drewN ?_ _) | (with_reducible refine Below.drew ?_) | (with_reducible refine Below.setCell ?_ ?_ _) | go_size))) (hb1.mono (by first | omega | (simp; done) | (simp; omega))); have hz1 := hb1.size; try simp at hz1
      have hl1T : w.heap.size < w1.heap.size := (by omega); have hx1T0 : w1.cell? ⟨w.heap.size, 0, none⟩ = some (.int .i64 (a)) := (by rw [(hb1.cell (by first | omega | (simp; done) | (simp; omega)))]; (repeat (rw [World.cell?_alloc_lt _ _ _ (by first | omega | (simp; done) | (simp; omega))])); go_cell); have hx1T1 : w1.cell? ⟨w.heap.size, 1, none⟩ = some (.int .i64 (b)) := (by rw [(hb1.cell (by first | omega | (simp; done) | (simp; omega)))]; (repeat (rw [World.cell?_alloc_lt _ _ _ (by first | omega | (simp; done) | (simp; omega))])); go_cell); have hx1T2 : w1.cell? ⟨w.heap.size, 2, none⟩ = some (.int .i64 (c)) := (by rw [(hb1.cell (by first | omega | (simp; done) | (simp; omega)))]; (repeat (rw [World.cell?_alloc_lt _ _ _ (by first | omega | (simp; done) | (simp; omega))])); go_cell); have hx1T3 : w1.cell? ⟨w.heap.size, 3, none⟩ = some (.int .i64 (d)) := (by rw [(hb1.cell (by first | omega | (simp; done) | (simp; omega)))]; (repeat (rw [World.cell?_alloc_lt _ _ _ (by first | omega | (simp; done) | (simp; omega))])); go_cell); have hx1T4 : w1.cell? ⟨w.heap.size, 4, none⟩ = some (.int .i64 (e)) := (by rw [(hb1.cell (by first | omega | (simp; done) | (simp; omega)))]; (repeat (rw [World.cell?_alloc_lt _ _ _ (by first | omega | (simp; done) | (simp; omega))])); go_cell); have hx1T5 : w1.cell? ⟨w.heap.size, 5, none⟩ = some (.int .i64 (f)) := (by rw [(hb1.cell (by first | omega | (simp; done) | (simp; omega)))]; (repeat (rw [World.cell?_alloc_lt _ _ _ (by first | omega | (simp; done) | (simp; omega))])); go_cell)
      go_wp2_with fail
      refine (IsRatio_any c d _).mono ?_
      rintro x w2 ⟨rfl, hb2⟩
      have hB2 : Below w.heap.size w w2 := Below.trans (by (repeat' (first | (with_reducible exact Below.refl _ _) | (with_reducible assumption) | (with_reducible refine Below.alloc ?_ ?_ _) | (with_reducible refine below_drewN ?_ _) | (with_reducible refine Below.drew ?_) | (with_reducible refine Below.setCell ?_ ?_ _) | go_size))) (hb2.mono (by first | omega | (simp; done) | (simp; omega))); have hz2 := hb2.size; try simp at hz2
      go_wp2_with fail
      go_returns
      exact ⟨ret_b (by simp), hB2⟩
    · go_enter Try.func38, Try.ntmps38
      go_wp2_with fail
      refine (IsRatio_any a b _).mono ?_
      rintro x w1 ⟨rfl, hb1⟩
      have hB1 : Below w.heap.size w w1 := Below.trans (by (repeat' (first | (with_reducible exact Below.refl _ _) | (with_reducible assumption) | (with_reducible refine Below.alloc ?_ ?_ _) | (with_reducible refine below_drewN ?_ _) | (with_reducible refine Below.drew ?_) | (with_reducible refine Below.setCell ?_ ?_ _) | go_size))) (hb1.mono (by first | omega | (simp; done) | (simp; omega))); have hz1 := hb1.size; try simp at hz1
      have hl1T : w.heap.size < w1.heap.size := (by omega); have hx1T0 : w1.cell? ⟨w.heap.size, 0, none⟩ = some (.int .i64 (a)) := (by rw [(hb1.cell (by first | omega | (simp; done) | (simp; omega)))]; (repeat (rw [World.cell?_alloc_lt _ _ _ (by first | omega | (simp; done) | (simp; omega))])); go_cell); have hx1T1 : w1.cell? ⟨w.heap.size, 1, none⟩ = some (.int .i64 (b)) := (by rw [(hb1.cell (by first | omega | (simp; done) | (simp; omega)))]; (repeat (rw [World.cell?_alloc_lt _ _ _ (by first | omega | (simp; done) | (simp; omega))])); go_cell); have hx1T2 : w1.cell? ⟨w.heap.size, 2, none⟩ = some (.int .i64 (c)) := (by rw [(hb1.cell (by first | omega | (simp; done) | (simp; omega)))]; (repeat (rw [World.cell?_alloc_lt _ _ _ (by first | omega | (simp; done) | (simp; omega))])); go_cell); have hx1T3 : w1.cell? ⟨w.heap.size, 3, none⟩ = some (.int .i64 (d)) := (by rw [(hb1.cell (by first | omega | (simp; done) | (simp; omega)))]; (repeat (rw [World.cell?_alloc_lt _ _ _ (by first | omega | (simp; done) | (simp; omega))])); go_cell); have hx1T4 : w1.cell? ⟨w.heap.size, 4, none⟩ = some (.int .i64 (e)) := (by rw [(hb1.cell (by first | omega | (simp; done) | (simp; omega)))]; (repeat (rw [World.cell?_alloc_lt _ _ _ (by first | omega | (simp; done) | (simp; omega))])); go_cell); have hx1T5 : w1.cell? ⟨w.heap.size, 5, none⟩ = some (.int .i64 (f)) := (by rw [(hb1.cell (by first | omega | (simp; done) | (simp; omega)))]; (repeat (rw [World.cell?_alloc_lt _ _ _ (by first | omega | (simp; done) | (simp; omega))])); go_cell)
      go_wp2_with fail
      refine (IsRatio_any c d _).mono ?_
      rintro x w2 ⟨rfl, hb2⟩
      have hB2 : Below w.heap.size w w2 := Below.trans (by (repeat' (first | (with_reducible exact Below.refl _ _) | (with_reducible assumption) | (with_reducible refine Below.alloc ?_ ?_ _) | (with_reducible refine below_drewN ?_ _) | (with_reducible refine Below.drew ?_) | (with_reducible refine Below.setCell ?_ ?_ _) | go_size))) (hb2.mono (by first | omega | (simp; done) | (simp; omega))); have hz2 := hb2.size; try simp at hz2
      have hl2T : w.heap.size < w2.heap.size := (by omega); have hx2T0 : w2.cell? ⟨w.heap.size, 0, none⟩ = some (.int .i64 (a)) := (by rw [(hb2.cell (by first | omega | (simp; done) | (simp; omega)))]; (repeat (rw [World.cell?_alloc_lt _ _ _ (by first | omega | (simp; done) | (simp; omega))])); go_cell); have hx2T1 : w2.cell? ⟨w.heap.size, 1, none⟩ = some (.int .i64 (b)) := (by rw [(hb2.cell (by first | omega | (simp; done) | (simp; omega)))]; (repeat (rw [World.cell?_alloc_lt _ _ _ (by first | omega | (simp; done) | (simp; omega))])); go_cell); have hx2T2 : w2.cell? ⟨w.heap.size, 2, none⟩ = some (.int .i64 (c)) := (by rw [(hb2.cell (by first | omega | (simp; done) | (simp; omega)))]; (repeat (rw [World.cell?_alloc_lt _ _ _ (by first | omega | (simp; done) | (simp; omega))])); go_cell); have hx2T3 : w2.cell? ⟨w.heap.size, 3, none⟩ = some (.int .i64 (d)) := (by rw [(hb2.cell (by first | omega | (simp; done) | (simp; omega)))]; (repeat (rw [World.cell?_alloc_lt _ _ _ (by first | omega | (simp; done) | (simp; omega))])); go_cell); have hx2T4 : w2.cell? ⟨w.heap.size, 4, none⟩ = some (.int .i64 (e)) := (by rw [(hb2.cell (by first | omega | (simp; done) | (simp; omega)))]; (repeat (rw [World.cell?_alloc_lt _ _ _ (by first | omega | (simp; done) | (simp; omega))])); go_cell); have hx2T5 : w2.cell? ⟨w.heap.size, 5, none⟩ = some (.int .i64 (f)) := (by rw [(hb2.cell (by first | omega | (simp; done) | (simp; omega)))]; (repeat (rw [World.cell?_alloc_lt _ _ _ (by first | omega | (simp; done) | (simp; omega))])); go_cell)
      go_wp2_with fail
      refine (IsRatio_any e f _).mono ?_
      rintro x w3 ⟨rfl, hb3⟩
      have hB3 : Below w.heap.size w w3 := Below.trans (by (repeat' (first | (with_reducible exact Below.refl _ _) | (with_reducible assumption) | (with_reducible refine Below.alloc ?_ ?_ _) | (with_reducible refine below_drewN ?_ _) | (with_reducible refine Below.drew ?_) | (with_reducible refine Below.setCell ?_ ?_ _) | go_size))) (hb3.mono (by first | omega | (simp; done) | (simp; omega))); have hz3 := hb3.size; try simp at hz3
      go_wp2_with fail
      all_goals go_returns
      all_goals exact ⟨ret_b (by simp), hB3⟩
theorem two_keep {w0 W w' : World} {g : Nat} {n d : Int} (hS : Below w0.heap.size w0 W ∧ W.cell? ⟨g, 0, none⟩ = some (.int .i64 n) ∧ W.cell? ⟨g, 1, none⟩ = some (.int .i64 d)) (hg : g < w0.heap.size) (hb : Below W.heap.size W w') :
    Below w0.heap.size w0 w' ∧ w'.cell? ⟨g, 0, none⟩ = some (.int .i64 n) ∧ w'.cell? ⟨g, 1, none⟩ = some (.int .i64 d) := by
  obtain ⟨q, h0, h1⟩ := hS
  have hz := q.size
  have c0 : g < W.heap.size := by omega
  exact ⟨q.trans (hb.mono hz), (hb.cell c0).trans h0, (hb.cell c0).trans h1⟩
set_option maxHeartbeats 1000000 in
theorem lawReduced_yes (n d : Int) (w : World) (h : Arm.okB n d = true) (hn : Arm.redN n d = n) (hd : Arm.redD n d = d) :
    Calls Try.prog 40 #[.agg #[.int .i64 n, .int .i64 d]] w fun e w' => e = .returned (.bool true) ∧ Below w.heap.size w w' := by
  have o := Arm.okB_true.1 h
  have x1 : Hid (∀ W, Calls Try.prog 41 #[.agg #[.int .i64 n, .int .i64 d]] W fun e w' => e = .returned (.bool true) ∧ Below W.heap.size W w') := fun W => by
    have := IsRatio_any n d W
    rw [h] at this
    exact this
  have x2 : Hid (∀ W, Calls Try.prog 43 #[.agg #[.int .i64 n, .int .i64 d]] W fun e w' => e = .returned (.agg #[.int .i64 n, .int .i64 d]) ∧ Below W.heap.size W w') := fun W => by
    have := refReduced_any n d W (by have := o.2; omega) (by have := o.2; omega) (by have := o.1; omega) (by have := o.1; omega)
    rw [hn, hd] at this
    exact this
  clear h hn hd o
  go_enter Try.func40, Try.ntmps40
  go_wp2_with fail
  generalize hW : World.alloc _ _ = W
  have hBW : Below w.heap.size w W := by rw [← hW]; clear hW; (repeat' (first | (with_reducible exact Below.refl _ _) | (with_reducible assumption) | (with_reducible refine Below.alloc ?_ ?_ _) | (with_reducible refine below_drewN ?_ _) | (with_reducible refine Below.drew ?_) | (with_reducible refine Below.setCell ?_ ?_ _) | go_size))
  have hlWr : w.heap.size < W.heap.size := (by rw [← hW]; clear hW; first | omega | (simp; done) | (simp; omega)); have hxWr0 : W.cell? ⟨w.heap.size, 0, none⟩ = some (.int .i64 (n)) := (by rw [← hW]; clear hW; (repeat (rw [World.cell?_alloc_lt _ _ _ (by first | omega | (simp; done) | (simp; omega))])); go_cell); have hxWr1 : W.cell? ⟨w.heap.size, 1, none⟩ = some (.int .i64 (d)) := (by rw [← hW]; clear hW; (repeat (rw [World.cell?_alloc_lt _ _ _ (by first | omega | (simp; done) | (simp; omega))])); go_cell)
  clear hW
  go_region_held3 (fun w' => Below W.heap.size W w' ∧ w'.cell? ⟨w.heap.size, 0, none⟩ = some (.int .i64 n) ∧ w'.cell? ⟨w.heap.size, 1, none⟩ = some (.int .i64 d))
    (first | exact ⟨Below.refl _ _, hxWr0, hxWr1⟩ | exact ⟨(Below.refl _ _).drew, hxWr0, hxWr1⟩ | (with_reducible assumption))
    (first
      | (go_at_call 41; refine (x1.out _).mono ?_; rintro e w1 ⟨rfl, hb1⟩; have hS := two_keep (by with_reducible assumption) hlWr hb1)
      | (go_at_call 43; refine (x2.out _).mono ?_; rintro e w2 ⟨rfl, hb2⟩; have hS2 := two_keep (by with_reducible assumption) hlWr hb2))
  all_goals
    obtain ⟨q, -, -⟩ : Below W.heap.size W w2 ∧ _ := by assumption
    have hB2 := hBW.trans (q.mono hBW.size)
    go_wp2_with fail
    go_returns
    exact ⟨rfl, hB2⟩
end Go.Proofs.Ytfjcmmdfipppoaa
