/- What each side of a polygon gives to the sums of First and Second. -/
import Derived.Test.YtkfnngcphcfbjaaTotal
import Derived.Test.YtkfnngcphcfbjaaGeoB
import Derived.IntWalk
namespace Go.Proofs.Ytkfnngcphcfbjaa
open Go.RowKit

namespace Geo
def fanV (s : (Int × Int) × (Int × Int)) : Int := turn s.1 s.2 (0, 0)
def fxV (s : (Int × Int) × (Int × Int)) : Int := fanV s * (s.1.1 + s.2.1)
def fyV (s : (Int × Int) × (Int × Int)) : Int := fanV s * (s.1.2 + s.2.2)
def xxV (s : (Int × Int) × (Int × Int)) : Int := fanV s * (s.1.1 * s.1.1 + s.1.1 * s.2.1 + s.2.1 * s.2.1)
def yyV (s : (Int × Int) × (Int × Int)) : Int := fanV s * (s.1.2 * s.1.2 + s.1.2 * s.2.2 + s.2.2 * s.2.2)
def xyV (s : (Int × Int) × (Int × Int)) : Int := fanV s * (2 * s.1.1 * s.1.2 + s.1.1 * s.2.2 + s.2.1 * s.1.2 + 2 * s.2.1 * s.2.2)
theorem fan_bd {s : (Int × Int) × (Int × Int)} (h1 : sm s.1) (h2 : sm s.2) : -8000000 ≤ fanV s ∧ fanV s ≤ 8000000 := (turn_bd h1 h2 (by unfold sm; omega)).2.2
theorem sq_bd {a b : Int} (h1 : -1000 ≤ a ∧ a ≤ 1000) (h2 : -1000 ≤ b ∧ b ≤ 1000) : -1000000 ≤ a * b ∧ a * b ≤ 1000000 := mul_bd (x := 1000) (y := 1000) h1.1 h1.2 h2.1 h2.2
theorem times_bd {t m M : Int} (h1 : -8000000 ≤ t ∧ t ≤ 8000000) (h2 : -M ≤ m ∧ m ≤ M) : -(8000000 * M) ≤ t * m ∧ t * m ≤ 8000000 * M := mul_bd (x := 8000000) (y := M) h1.1 h1.2 h2.1 h2.2
end Geo

theorem mom_keep {w0 W w' : World} {g : Nat} {a b c d : Int}
    (hS : Below w0.heap.size w0 W ∧ (W.cell? ⟨g, 0, none⟩ = some (.int .i64 a) ∧ W.cell? ⟨g, 1, none⟩ = some (.int .i64 b) ∧ W.cell? ⟨g, 2, none⟩ = some (.int .i64 c) ∧ W.cell? ⟨g, 3, none⟩ = some (.int .i64 d)))
    (hg : g < w0.heap.size) (hb : Below W.heap.size W w') :
    Below w0.heap.size w0 w' ∧ (w'.cell? ⟨g, 0, none⟩ = some (.int .i64 a) ∧ w'.cell? ⟨g, 1, none⟩ = some (.int .i64 b) ∧ w'.cell? ⟨g, 2, none⟩ = some (.int .i64 c) ∧ w'.cell? ⟨g, 3, none⟩ = some (.int .i64 d)) := by
  obtain ⟨q, h0, h1, h2, h3⟩ := hS
  have hz := q.size
  have c0 : g < W.heap.size := by omega
  exact ⟨q.trans (hb.mono hz), (hb.cell c0).trans h0, (hb.cell c0).trans h1, (hb.cell c0).trans h2, (hb.cell c0).trans h3⟩
theorem mom_keep3 {w0 W w' : World} {g p r : Nat} {a b c d e f i j : Value}
    (hS : Below w0.heap.size w0 W ∧ (W.cell? ⟨g, 0, none⟩ = some a ∧ W.cell? ⟨g, 1, none⟩ = some b ∧ W.cell? ⟨g, 2, none⟩ = some c ∧ W.cell? ⟨g, 3, none⟩ = some d) ∧ (W.cell? ⟨p, 0, none⟩ = some e ∧ W.cell? ⟨p, 1, none⟩ = some f) ∧ (W.cell? ⟨r, 0, none⟩ = some i ∧ W.cell? ⟨r, 1, none⟩ = some j))
    (hg : g < w0.heap.size) (hp : p < w0.heap.size) (hr : r < w0.heap.size) (hb : Below W.heap.size W w') :
    Below w0.heap.size w0 w' ∧ (w'.cell? ⟨g, 0, none⟩ = some a ∧ w'.cell? ⟨g, 1, none⟩ = some b ∧ w'.cell? ⟨g, 2, none⟩ = some c ∧ w'.cell? ⟨g, 3, none⟩ = some d) ∧ (w'.cell? ⟨p, 0, none⟩ = some e ∧ w'.cell? ⟨p, 1, none⟩ = some f) ∧ (w'.cell? ⟨r, 0, none⟩ = some i ∧ w'.cell? ⟨r, 1, none⟩ = some j) := by
  obtain ⟨q, ⟨h0, h1, h2, h3⟩, ⟨h4, h5⟩, h6, h7⟩ := hS
  have hz := q.size
  have c0 : g < W.heap.size := by omega
  have c1 : p < W.heap.size := by omega
  have c2 : r < W.heap.size := by omega
  exact ⟨q.trans (hb.mono hz), ⟨(hb.cell c0).trans h0, (hb.cell c0).trans h1, (hb.cell c0).trans h2, (hb.cell c0).trans h3⟩, ⟨(hb.cell c1).trans h4, (hb.cell c1).trans h5⟩, (hb.cell c2).trans h6, (hb.cell c2).trans h7⟩
theorem below_keep4 {W w1 w2 : World} {B : Nat} {a b c d : Value} (h : Below W.heap.size W w1 ∧ BoxS w1 B 65 #[a, b, c, d]) (hb : Below w1.heap.size w1 w2) : Below W.heap.size W w2 ∧ BoxS w2 B 65 #[a, b, c, d] :=
  ⟨h.1.trans (hb.mono h.1.size), h.2.below hb⟩
theorem sumOf_mid {B : Int} {v : Int} (h : -B ≤ v ∧ v ≤ B) (hB : B ≤ 1000000000000000) : -1000000000000000 ≤ v ∧ v ≤ 1000000000000000 := by omega

set_option maxRecDepth 100000 in
set_option maxHeartbeats 2000000 in
theorem fx_any (x1 y1 x2 y2 : Int) (w : World) (h1 : Geo.sm (x1, y1)) (h2 : Geo.sm (x2, y2)) :
    Calls Try.prog 75 #[.agg #[.int .i64 x1, .int .i64 y1, .int .i64 x2, .int .i64 y2]] w
      fun e w' => e = .returned (.int .i64 (Geo.fxV ((x1, y1), (x2, y2)))) ∧ Below w.heap.size w w' := by
  have x0 : Hid (∀ W, Calls Try.prog 76 #[.agg #[.int .i64 x1, .int .i64 y1, .int .i64 x2, .int .i64 y2]] W fun e w' => e = .returned (.int .i64 (Geo.fanV ((x1, y1), (x2, y2)))) ∧ Below W.heap.size W w') := fun W => fan_any x1 y1 x2 y2 W h1 h2
  have hT := Geo.fan_bd (s := ((x1, y1), (x2, y2))) h1 h2
  have HV : Hid (Geo.fxV ((x1, y1), (x2, y2)) = Geo.fanV ((x1, y1), (x2, y2)) * (x1 + x2)) := rfl
  generalize Geo.fxV ((x1, y1), (x2, y2)) = V at *
  generalize Geo.fanV ((x1, y1), (x2, y2)) = T at *
  obtain ⟨⟨a1, a2⟩, a3, a4⟩ := h1
  obtain ⟨⟨b1, b2⟩, b3, b4⟩ := h2
  dsimp only at a1 a2 a3 a4 b1 b2 b3 b4
  have m1 := Geo.times_bd (t := T) (m := x1 + x2) (M := 2000) hT (by omega)
  obtain ⟨m11, m12⟩ := m1
  obtain ⟨t1, t2⟩ := hT
  go_enter Try.func75, Try.ntmps75
  go_wp2_with fail
  generalize hW : World.alloc _ _ = W
  have hB0 : Below w.heap.size w W := by rw [← hW]; clear hW; (repeat' (first | (with_reducible exact Below.refl _ _) | (with_reducible assumption) | (with_reducible refine Below.alloc ?_ ?_ _) | (with_reducible refine below_drewN ?_ _) | (with_reducible refine Below.drew ?_) | (with_reducible refine Below.setCell ?_ ?_ _) | go_size))
  have hlWs : w.heap.size < W.heap.size := (by rw [← hW]; clear hW; first | omega | (simp; done) | (simp; omega)); have hxWs0 : W.cell? ⟨w.heap.size, 0, none⟩ = some (.int .i64 (x1)) := (by rw [← hW]; clear hW; (repeat (rw [World.cell?_alloc_lt _ _ _ (by first | omega | (simp; done) | (simp; omega))])); go_cell); have hxWs1 : W.cell? ⟨w.heap.size, 1, none⟩ = some (.int .i64 (y1)) := (by rw [← hW]; clear hW; (repeat (rw [World.cell?_alloc_lt _ _ _ (by first | omega | (simp; done) | (simp; omega))])); go_cell); have hxWs2 : W.cell? ⟨w.heap.size, 2, none⟩ = some (.int .i64 (x2)) := (by rw [← hW]; clear hW; (repeat (rw [World.cell?_alloc_lt _ _ _ (by first | omega | (simp; done) | (simp; omega))])); go_cell); have hxWs3 : W.cell? ⟨w.heap.size, 3, none⟩ = some (.int .i64 (y2)) := (by rw [← hW]; clear hW; (repeat (rw [World.cell?_alloc_lt _ _ _ (by first | omega | (simp; done) | (simp; omega))])); go_cell)
  clear hW
  go_region_held3 (fun w' => Below W.heap.size W w' ∧ (w'.cell? ⟨w.heap.size, 0, none⟩ = some (.int .i64 x1) ∧ w'.cell? ⟨w.heap.size, 1, none⟩ = some (.int .i64 y1) ∧ w'.cell? ⟨w.heap.size, 2, none⟩ = some (.int .i64 x2) ∧ w'.cell? ⟨w.heap.size, 3, none⟩ = some (.int .i64 y2)))
    (first | exact ⟨Below.refl _ _, ⟨hxWs0, hxWs1, hxWs2, hxWs3⟩⟩ | exact ⟨(Below.refl _ _).drew, ⟨hxWs0, hxWs1, hxWs2, hxWs3⟩⟩ | (with_reducible assumption))
    ((go_at_call 76; refine (x0.out _).mono ?_; rintro e w1 ⟨rfl, hb1⟩; have hS1 := mom_keep (by with_reducible assumption) hlWs hb1))
  obtain ⟨q, -⟩ : Below W.heap.size W w1 ∧ _ := by assumption
  have hB2 := hB0.trans (q.mono hB0.size)
  clear hxWs0 hxWs1 hxWs2 hxWs3
  go_wp2_with fail
  go_returns
  exact ⟨ret_i (by rw [HV.out, IntWalk.i64_in (x1 + x2) (by omega), IntWalk.i64_in (T * (x1 + x2)) (by omega)]), hB2⟩

set_option maxRecDepth 100000 in
set_option maxHeartbeats 2000000 in
theorem fy_any (x1 y1 x2 y2 : Int) (w : World) (h1 : Geo.sm (x1, y1)) (h2 : Geo.sm (x2, y2)) :
    Calls Try.prog 77 #[.agg #[.int .i64 x1, .int .i64 y1, .int .i64 x2, .int .i64 y2]] w
      fun e w' => e = .returned (.int .i64 (Geo.fyV ((x1, y1), (x2, y2)))) ∧ Below w.heap.size w w' := by
  have x0 : Hid (∀ W, Calls Try.prog 76 #[.agg #[.int .i64 x1, .int .i64 y1, .int .i64 x2, .int .i64 y2]] W fun e w' => e = .returned (.int .i64 (Geo.fanV ((x1, y1), (x2, y2)))) ∧ Below W.heap.size W w') := fun W => fan_any x1 y1 x2 y2 W h1 h2
  have hT := Geo.fan_bd (s := ((x1, y1), (x2, y2))) h1 h2
  have HV : Hid (Geo.fyV ((x1, y1), (x2, y2)) = Geo.fanV ((x1, y1), (x2, y2)) * (y1 + y2)) := rfl
  generalize Geo.fyV ((x1, y1), (x2, y2)) = V at *
  generalize Geo.fanV ((x1, y1), (x2, y2)) = T at *
  obtain ⟨⟨a1, a2⟩, a3, a4⟩ := h1
  obtain ⟨⟨b1, b2⟩, b3, b4⟩ := h2
  dsimp only at a1 a2 a3 a4 b1 b2 b3 b4
  have m1 := Geo.times_bd (t := T) (m := y1 + y2) (M := 2000) hT (by omega)
  obtain ⟨m11, m12⟩ := m1
  obtain ⟨t1, t2⟩ := hT
  go_enter Try.func77, Try.ntmps77
  go_wp2_with fail
  generalize hW : World.alloc _ _ = W
  have hB0 : Below w.heap.size w W := by rw [← hW]; clear hW; (repeat' (first | (with_reducible exact Below.refl _ _) | (with_reducible assumption) | (with_reducible refine Below.alloc ?_ ?_ _) | (with_reducible refine below_drewN ?_ _) | (with_reducible refine Below.drew ?_) | (with_reducible refine Below.setCell ?_ ?_ _) | go_size))
  have hlWs : w.heap.size < W.heap.size := (by rw [← hW]; clear hW; first | omega | (simp; done) | (simp; omega)); have hxWs0 : W.cell? ⟨w.heap.size, 0, none⟩ = some (.int .i64 (x1)) := (by rw [← hW]; clear hW; (repeat (rw [World.cell?_alloc_lt _ _ _ (by first | omega | (simp; done) | (simp; omega))])); go_cell); have hxWs1 : W.cell? ⟨w.heap.size, 1, none⟩ = some (.int .i64 (y1)) := (by rw [← hW]; clear hW; (repeat (rw [World.cell?_alloc_lt _ _ _ (by first | omega | (simp; done) | (simp; omega))])); go_cell); have hxWs2 : W.cell? ⟨w.heap.size, 2, none⟩ = some (.int .i64 (x2)) := (by rw [← hW]; clear hW; (repeat (rw [World.cell?_alloc_lt _ _ _ (by first | omega | (simp; done) | (simp; omega))])); go_cell); have hxWs3 : W.cell? ⟨w.heap.size, 3, none⟩ = some (.int .i64 (y2)) := (by rw [← hW]; clear hW; (repeat (rw [World.cell?_alloc_lt _ _ _ (by first | omega | (simp; done) | (simp; omega))])); go_cell)
  clear hW
  go_region_held3 (fun w' => Below W.heap.size W w' ∧ (w'.cell? ⟨w.heap.size, 0, none⟩ = some (.int .i64 x1) ∧ w'.cell? ⟨w.heap.size, 1, none⟩ = some (.int .i64 y1) ∧ w'.cell? ⟨w.heap.size, 2, none⟩ = some (.int .i64 x2) ∧ w'.cell? ⟨w.heap.size, 3, none⟩ = some (.int .i64 y2)))
    (first | exact ⟨Below.refl _ _, ⟨hxWs0, hxWs1, hxWs2, hxWs3⟩⟩ | exact ⟨(Below.refl _ _).drew, ⟨hxWs0, hxWs1, hxWs2, hxWs3⟩⟩ | (with_reducible assumption))
    ((go_at_call 76; refine (x0.out _).mono ?_; rintro e w1 ⟨rfl, hb1⟩; have hS1 := mom_keep (by with_reducible assumption) hlWs hb1))
  obtain ⟨q, -⟩ : Below W.heap.size W w1 ∧ _ := by assumption
  have hB2 := hB0.trans (q.mono hB0.size)
  clear hxWs0 hxWs1 hxWs2 hxWs3
  go_wp2_with fail
  go_returns
  exact ⟨ret_i (by rw [HV.out, IntWalk.i64_in (y1 + y2) (by omega), IntWalk.i64_in (T * (y1 + y2)) (by omega)]), hB2⟩

set_option maxRecDepth 100000 in
set_option maxHeartbeats 2000000 in
theorem xx_any (x1 y1 x2 y2 : Int) (w : World) (h1 : Geo.sm (x1, y1)) (h2 : Geo.sm (x2, y2)) :
    Calls Try.prog 79 #[.agg #[.int .i64 x1, .int .i64 y1, .int .i64 x2, .int .i64 y2]] w
      fun e w' => e = .returned (.int .i64 (Geo.xxV ((x1, y1), (x2, y2)))) ∧ Below w.heap.size w w' := by
  have x0 : Hid (∀ W, Calls Try.prog 76 #[.agg #[.int .i64 x1, .int .i64 y1, .int .i64 x2, .int .i64 y2]] W fun e w' => e = .returned (.int .i64 (Geo.fanV ((x1, y1), (x2, y2)))) ∧ Below W.heap.size W w') := fun W => fan_any x1 y1 x2 y2 W h1 h2
  have hT := Geo.fan_bd (s := ((x1, y1), (x2, y2))) h1 h2
  have HV : Hid (Geo.xxV ((x1, y1), (x2, y2)) = Geo.fanV ((x1, y1), (x2, y2)) * (x1 * x1 + x1 * x2 + x2 * x2)) := rfl
  generalize Geo.xxV ((x1, y1), (x2, y2)) = V at *
  generalize Geo.fanV ((x1, y1), (x2, y2)) = T at *
  obtain ⟨⟨a1, a2⟩, a3, a4⟩ := h1
  obtain ⟨⟨b1, b2⟩, b3, b4⟩ := h2
  dsimp only at a1 a2 a3 a4 b1 b2 b3 b4
  have q1 := Geo.sq_bd (a := x1) (b := x1) (by omega) (by omega)
  have q2 := Geo.sq_bd (a := x1) (b := x2) (by omega) (by omega)
  have q3 := Geo.sq_bd (a := x2) (b := x2) (by omega) (by omega)
  have m1 := Geo.times_bd (t := T) (m := x1 * x1 + x1 * x2 + x2 * x2) (M := 3000000) hT (by omega)
  obtain ⟨m11, m12⟩ := m1
  obtain ⟨q11, q12⟩ := q1
  obtain ⟨q21, q22⟩ := q2
  obtain ⟨q31, q32⟩ := q3
  obtain ⟨t1, t2⟩ := hT
  go_enter Try.func79, Try.ntmps79
  go_wp2_with fail
  go_quiet (fail)
  go_wp2_with fail
  refine (x0.out _).mono ?_
  rintro e w1 ⟨rfl, hb1⟩
  have hB1 : Below w.heap.size w w1 := Below.trans (by (repeat' (first | (with_reducible exact Below.refl _ _) | (with_reducible assumption) | (with_reducible refine Below.alloc ?_ ?_ _) | (with_reducible refine below_drewN ?_ _) | (with_reducible refine Below.drew ?_) | (with_reducible refine Below.setCell ?_ ?_ _) | go_size))) (hb1.mono (by first | omega | (simp; done) | (simp; omega))); have hz1 := hb1.size; try simp at hz1
  go_wp2_with fail
  go_returns
  exact ⟨ret_i HV.out.symm, by (repeat' (first | (with_reducible exact Below.refl _ _) | (with_reducible assumption) | (with_reducible refine Below.alloc ?_ ?_ _) | (with_reducible refine below_drewN ?_ _) | (with_reducible refine Below.drew ?_) | (with_reducible refine Below.setCell ?_ ?_ _) | go_size))⟩

set_option maxRecDepth 100000 in
set_option maxHeartbeats 2000000 in
theorem yy_any (x1 y1 x2 y2 : Int) (w : World) (h1 : Geo.sm (x1, y1)) (h2 : Geo.sm (x2, y2)) :
    Calls Try.prog 81 #[.agg #[.int .i64 x1, .int .i64 y1, .int .i64 x2, .int .i64 y2]] w
      fun e w' => e = .returned (.int .i64 (Geo.yyV ((x1, y1), (x2, y2)))) ∧ Below w.heap.size w w' := by
  have x0 : Hid (∀ W, Calls Try.prog 76 #[.agg #[.int .i64 x1, .int .i64 y1, .int .i64 x2, .int .i64 y2]] W fun e w' => e = .returned (.int .i64 (Geo.fanV ((x1, y1), (x2, y2)))) ∧ Below W.heap.size W w') := fun W => fan_any x1 y1 x2 y2 W h1 h2
  have hT := Geo.fan_bd (s := ((x1, y1), (x2, y2))) h1 h2
  have HV : Hid (Geo.yyV ((x1, y1), (x2, y2)) = Geo.fanV ((x1, y1), (x2, y2)) * (y1 * y1 + y1 * y2 + y2 * y2)) := rfl
  generalize Geo.yyV ((x1, y1), (x2, y2)) = V at *
  generalize Geo.fanV ((x1, y1), (x2, y2)) = T at *
  obtain ⟨⟨a1, a2⟩, a3, a4⟩ := h1
  obtain ⟨⟨b1, b2⟩, b3, b4⟩ := h2
  dsimp only at a1 a2 a3 a4 b1 b2 b3 b4
  have q1 := Geo.sq_bd (a := y1) (b := y1) (by omega) (by omega)
  have q2 := Geo.sq_bd (a := y1) (b := y2) (by omega) (by omega)
  have q3 := Geo.sq_bd (a := y2) (b := y2) (by omega) (by omega)
  have m1 := Geo.times_bd (t := T) (m := y1 * y1 + y1 * y2 + y2 * y2) (M := 3000000) hT (by omega)
  obtain ⟨m11, m12⟩ := m1
  obtain ⟨q11, q12⟩ := q1
  obtain ⟨q21, q22⟩ := q2
  obtain ⟨q31, q32⟩ := q3
  obtain ⟨t1, t2⟩ := hT
  go_enter Try.func81, Try.ntmps81
  go_wp2_with fail
  go_quiet (fail)
  go_wp2_with fail
  refine (x0.out _).mono ?_
  rintro e w1 ⟨rfl, hb1⟩
  have hB1 : Below w.heap.size w w1 := Below.trans (by (repeat' (first | (with_reducible exact Below.refl _ _) | (with_reducible assumption) | (with_reducible refine Below.alloc ?_ ?_ _) | (with_reducible refine below_drewN ?_ _) | (with_reducible refine Below.drew ?_) | (with_reducible refine Below.setCell ?_ ?_ _) | go_size))) (hb1.mono (by first | omega | (simp; done) | (simp; omega))); have hz1 := hb1.size; try simp at hz1
  go_wp2_with fail
  go_returns
  exact ⟨ret_i HV.out.symm, by (repeat' (first | (with_reducible exact Below.refl _ _) | (with_reducible assumption) | (with_reducible refine Below.alloc ?_ ?_ _) | (with_reducible refine below_drewN ?_ _) | (with_reducible refine Below.drew ?_) | (with_reducible refine Below.setCell ?_ ?_ _) | go_size))⟩

set_option maxRecDepth 100000 in
set_option maxHeartbeats 2000000 in
theorem xy_any (x1 y1 x2 y2 : Int) (w : World) (h1 : Geo.sm (x1, y1)) (h2 : Geo.sm (x2, y2)) :
    Calls Try.prog 80 #[.agg #[.int .i64 x1, .int .i64 y1, .int .i64 x2, .int .i64 y2]] w
      fun e w' => e = .returned (.int .i64 (Geo.xyV ((x1, y1), (x2, y2)))) ∧ Below w.heap.size w w' := by
  have x0 : Hid (∀ W, Calls Try.prog 76 #[.agg #[.int .i64 x1, .int .i64 y1, .int .i64 x2, .int .i64 y2]] W fun e w' => e = .returned (.int .i64 (Geo.fanV ((x1, y1), (x2, y2)))) ∧ Below W.heap.size W w') := fun W => fan_any x1 y1 x2 y2 W h1 h2
  have hT := Geo.fan_bd (s := ((x1, y1), (x2, y2))) h1 h2
  have HV : Hid (Geo.xyV ((x1, y1), (x2, y2)) = Geo.fanV ((x1, y1), (x2, y2)) * (2 * x1 * y1 + x1 * y2 + x2 * y1 + 2 * x2 * y2)) := rfl
  generalize Geo.xyV ((x1, y1), (x2, y2)) = V at *
  generalize Geo.fanV ((x1, y1), (x2, y2)) = T at *
  obtain ⟨⟨a1, a2⟩, a3, a4⟩ := h1
  obtain ⟨⟨b1, b2⟩, b3, b4⟩ := h2
  dsimp only at a1 a2 a3 a4 b1 b2 b3 b4
  have q1 := Geo.sq_bd (a := x1) (b := y1) (by omega) (by omega)
  have q2 := Geo.sq_bd (a := x1) (b := y2) (by omega) (by omega)
  have q3 := Geo.sq_bd (a := x2) (b := y1) (by omega) (by omega)
  have q4 := Geo.sq_bd (a := x2) (b := y2) (by omega) (by omega)
  have e1 : 2 * x1 * y1 = 2 * (x1 * y1) := Int.mul_assoc _ _ _
  have e2 : 2 * x2 * y2 = 2 * (x2 * y2) := Int.mul_assoc _ _ _
  have q5 : -2000000 ≤ 2 * x1 * y1 ∧ 2 * x1 * y1 ≤ 2000000 := by omega
  have q6 : -2000000 ≤ 2 * x2 * y2 ∧ 2 * x2 * y2 ≤ 2000000 := by omega
  have m1 := Geo.times_bd (t := T) (m := 2 * x1 * y1 + x1 * y2 + x2 * y1 + 2 * x2 * y2) (M := 6000000) hT (by omega)
  clear e1 e2 q1 q4
  obtain ⟨m11, m12⟩ := m1
  obtain ⟨q21, q22⟩ := q2
  obtain ⟨q31, q32⟩ := q3
  obtain ⟨q51, q52⟩ := q5
  obtain ⟨q61, q62⟩ := q6
  obtain ⟨t1, t2⟩ := hT
  go_enter Try.func80, Try.ntmps80
  go_wp2_with fail
  go_region
  · go_wp2_with fail
    generalize hW : World.drew _ = W
    have hB0 : Below w.heap.size w W := by rw [← hW]; clear hW; (repeat' (first | (with_reducible exact Below.refl _ _) | (with_reducible assumption) | (with_reducible refine Below.alloc ?_ ?_ _) | (with_reducible refine below_drewN ?_ _) | (with_reducible refine Below.drew ?_) | (with_reducible refine Below.setCell ?_ ?_ _) | go_size))
    have hlWs : w.heap.size < W.heap.size := (by rw [← hW]; clear hW; first | omega | (simp; done) | (simp; omega)); have hxWs0 : W.cell? ⟨w.heap.size, 0, none⟩ = some (.int .i64 (x1)) := (by rw [← hW]; clear hW; (repeat (rw [World.cell?_alloc_lt _ _ _ (by first | omega | (simp; done) | (simp; omega))])); go_cell); have hxWs1 : W.cell? ⟨w.heap.size, 1, none⟩ = some (.int .i64 (y1)) := (by rw [← hW]; clear hW; (repeat (rw [World.cell?_alloc_lt _ _ _ (by first | omega | (simp; done) | (simp; omega))])); go_cell); have hxWs2 : W.cell? ⟨w.heap.size, 2, none⟩ = some (.int .i64 (x2)) := (by rw [← hW]; clear hW; (repeat (rw [World.cell?_alloc_lt _ _ _ (by first | omega | (simp; done) | (simp; omega))])); go_cell); have hxWs3 : W.cell? ⟨w.heap.size, 3, none⟩ = some (.int .i64 (y2)) := (by rw [← hW]; clear hW; (repeat (rw [World.cell?_alloc_lt _ _ _ (by first | omega | (simp; done) | (simp; omega))])); go_cell)
    have hlWg : w.heap.size + 1 < W.heap.size := (by rw [← hW]; clear hW; first | omega | (simp; done) | (simp; omega)); have hxWg0 : W.cell? ⟨w.heap.size + 1, 0, none⟩ = some (.int .i64 (x1)) := (by rw [← hW]; clear hW; (repeat (rw [World.cell?_alloc_lt _ _ _ (by first | omega | (simp; done) | (simp; omega))])); go_cell); have hxWg1 : W.cell? ⟨w.heap.size + 1, 1, none⟩ = some (.int .i64 (y1)) := (by rw [← hW]; clear hW; (repeat (rw [World.cell?_alloc_lt _ _ _ (by first | omega | (simp; done) | (simp; omega))])); go_cell)
    have hlWh : w.heap.size + 1 + 1 < W.heap.size := (by rw [← hW]; clear hW; first | omega | (simp; done) | (simp; omega)); have hxWh0 : W.cell? ⟨w.heap.size + 1 + 1, 0, none⟩ = some (.int .i64 (x2)) := (by rw [← hW]; clear hW; (repeat (rw [World.cell?_alloc_lt _ _ _ (by first | omega | (simp; done) | (simp; omega))])); go_cell); have hxWh1 : W.cell? ⟨w.heap.size + 1 + 1, 1, none⟩ = some (.int .i64 (y2)) := (by rw [← hW]; clear hW; (repeat (rw [World.cell?_alloc_lt _ _ _ (by first | omega | (simp; done) | (simp; omega))])); go_cell)
    clear hW
    go_region_held3 (fun w' => Below W.heap.size W w' ∧ (w'.cell? ⟨w.heap.size, 0, none⟩ = some (.int .i64 x1) ∧ w'.cell? ⟨w.heap.size, 1, none⟩ = some (.int .i64 y1) ∧ w'.cell? ⟨w.heap.size, 2, none⟩ = some (.int .i64 x2) ∧ w'.cell? ⟨w.heap.size, 3, none⟩ = some (.int .i64 y2)) ∧ (w'.cell? ⟨w.heap.size + 1, 0, none⟩ = some (.int .i64 x1) ∧ w'.cell? ⟨w.heap.size + 1, 1, none⟩ = some (.int .i64 y1)) ∧ (w'.cell? ⟨w.heap.size + 1 + 1, 0, none⟩ = some (.int .i64 x2) ∧ w'.cell? ⟨w.heap.size + 1 + 1, 1, none⟩ = some (.int .i64 y2)))
      (first | exact ⟨Below.refl _ _, ⟨hxWs0, hxWs1, hxWs2, hxWs3⟩, ⟨hxWg0, hxWg1⟩, hxWh0, hxWh1⟩ | exact ⟨(Below.refl _ _).drew, ⟨hxWs0, hxWs1, hxWs2, hxWs3⟩, ⟨hxWg0, hxWg1⟩, hxWh0, hxWh1⟩ | (with_reducible assumption))
      ((go_at_call 76; refine (x0.out _).mono ?_; rintro e w1 ⟨rfl, hb1⟩; have hS1 := mom_keep3 (by with_reducible assumption) hlWs hlWg hlWh hb1))
    obtain ⟨q, -⟩ : Below W.heap.size W w1 ∧ _ := by assumption
    have hB2 := hB0.trans (q.mono hB0.size)
    clear hxWs0 hxWs1 hxWs2 hxWs3
    go_wp2_with fail
    go_returns
    exact ⟨ret_i (by rw [HV.out, IntWalk.i64_in (2 * x1) (by omega), IntWalk.i64_in (2 * x1 * y1) (by omega), IntWalk.i64_in (x1 * y2) (by omega), IntWalk.i64_in (2 * x1 * y1 + x1 * y2) (by omega), IntWalk.i64_in (x2 * y1) (by omega), IntWalk.i64_in (2 * x1 * y1 + x1 * y2 + x2 * y1) (by omega), IntWalk.i64_in (2 * x2) (by omega), IntWalk.i64_in (2 * x2 * y2) (by omega), IntWalk.i64_in (2 * x1 * y1 + x1 * y2 + x2 * y1 + 2 * x2 * y2) (by omega), IntWalk.i64_in (T * (2 * x1 * y1 + x1 * y2 + x2 * y1 + 2 * x2 * y2)) (by omega)]), hB2⟩
  · go_wp2_with fail
    generalize hW : World.drew _ = W
    have hB0 : Below w.heap.size w W := by rw [← hW]; clear hW; (repeat' (first | (with_reducible exact Below.refl _ _) | (with_reducible assumption) | (with_reducible refine Below.alloc ?_ ?_ _) | (with_reducible refine below_drewN ?_ _) | (with_reducible refine Below.drew ?_) | (with_reducible refine Below.setCell ?_ ?_ _) | go_size))
    have hlWs : w.heap.size < W.heap.size := (by rw [← hW]; clear hW; first | omega | (simp; done) | (simp; omega)); have hxWs0 : W.cell? ⟨w.heap.size, 0, none⟩ = some (.int .i64 (x1)) := (by rw [← hW]; clear hW; (repeat (rw [World.cell?_alloc_lt _ _ _ (by first | omega | (simp; done) | (simp; omega))])); go_cell); have hxWs1 : W.cell? ⟨w.heap.size, 1, none⟩ = some (.int .i64 (y1)) := (by rw [← hW]; clear hW; (repeat (rw [World.cell?_alloc_lt _ _ _ (by first | omega | (simp; done) | (simp; omega))])); go_cell); have hxWs2 : W.cell? ⟨w.heap.size, 2, none⟩ = some (.int .i64 (x2)) := (by rw [← hW]; clear hW; (repeat (rw [World.cell?_alloc_lt _ _ _ (by first | omega | (simp; done) | (simp; omega))])); go_cell); have hxWs3 : W.cell? ⟨w.heap.size, 3, none⟩ = some (.int .i64 (y2)) := (by rw [← hW]; clear hW; (repeat (rw [World.cell?_alloc_lt _ _ _ (by first | omega | (simp; done) | (simp; omega))])); go_cell)
    have hlWg : w.heap.size + 1 + 1 < W.heap.size := (by rw [← hW]; clear hW; first | omega | (simp; done) | (simp; omega)); have hxWg0 : W.cell? ⟨w.heap.size + 1 + 1, 0, none⟩ = some (.int .i64 (x1)) := (by rw [← hW]; clear hW; (repeat (rw [World.cell?_alloc_lt _ _ _ (by first | omega | (simp; done) | (simp; omega))])); go_cell); have hxWg1 : W.cell? ⟨w.heap.size + 1 + 1, 1, none⟩ = some (.int .i64 (y1)) := (by rw [← hW]; clear hW; (repeat (rw [World.cell?_alloc_lt _ _ _ (by first | omega | (simp; done) | (simp; omega))])); go_cell)
    have hlWh : w.heap.size + 1 < W.heap.size := (by rw [← hW]; clear hW; first | omega | (simp; done) | (simp; omega)); have hxWh0 : W.cell? ⟨w.heap.size + 1, 0, none⟩ = some (.int .i64 (x2)) := (by rw [← hW]; clear hW; (repeat (rw [World.cell?_alloc_lt _ _ _ (by first | omega | (simp; done) | (simp; omega))])); go_cell); have hxWh1 : W.cell? ⟨w.heap.size + 1, 1, none⟩ = some (.int .i64 (y2)) := (by rw [← hW]; clear hW; (repeat (rw [World.cell?_alloc_lt _ _ _ (by first | omega | (simp; done) | (simp; omega))])); go_cell)
    clear hW
    go_region_held3 (fun w' => Below W.heap.size W w' ∧ (w'.cell? ⟨w.heap.size, 0, none⟩ = some (.int .i64 x1) ∧ w'.cell? ⟨w.heap.size, 1, none⟩ = some (.int .i64 y1) ∧ w'.cell? ⟨w.heap.size, 2, none⟩ = some (.int .i64 x2) ∧ w'.cell? ⟨w.heap.size, 3, none⟩ = some (.int .i64 y2)) ∧ (w'.cell? ⟨w.heap.size + 1 + 1, 0, none⟩ = some (.int .i64 x1) ∧ w'.cell? ⟨w.heap.size + 1 + 1, 1, none⟩ = some (.int .i64 y1)) ∧ (w'.cell? ⟨w.heap.size + 1, 0, none⟩ = some (.int .i64 x2) ∧ w'.cell? ⟨w.heap.size + 1, 1, none⟩ = some (.int .i64 y2)))
      (first | exact ⟨Below.refl _ _, ⟨hxWs0, hxWs1, hxWs2, hxWs3⟩, ⟨hxWg0, hxWg1⟩, hxWh0, hxWh1⟩ | exact ⟨(Below.refl _ _).drew, ⟨hxWs0, hxWs1, hxWs2, hxWs3⟩, ⟨hxWg0, hxWg1⟩, hxWh0, hxWh1⟩ | (with_reducible assumption))
      ((go_at_call 76; refine (x0.out _).mono ?_; rintro e w1 ⟨rfl, hb1⟩; have hS1 := mom_keep3 (by with_reducible assumption) hlWs hlWg hlWh hb1))
    obtain ⟨q, -⟩ : Below W.heap.size W w1 ∧ _ := by assumption
    have hB2 := hB0.trans (q.mono hB0.size)
    clear hxWs0 hxWs1 hxWs2 hxWs3
    go_wp2_with fail
    go_returns
    exact ⟨ret_i (by rw [HV.out, IntWalk.i64_in (2 * x1) (by omega), IntWalk.i64_in (2 * x1 * y1) (by omega), IntWalk.i64_in (x1 * y2) (by omega), IntWalk.i64_in (2 * x1 * y1 + x1 * y2) (by omega), IntWalk.i64_in (x2 * y1) (by omega), IntWalk.i64_in (2 * x1 * y1 + x1 * y2 + x2 * y1) (by omega), IntWalk.i64_in (2 * x2) (by omega), IntWalk.i64_in (2 * x2 * y2) (by omega), IntWalk.i64_in (2 * x1 * y1 + x1 * y2 + x2 * y1 + 2 * x2 * y2) (by omega), IntWalk.i64_in (T * (2 * x1 * y1 + x1 * y2 + x2 * y1 + 2 * x2 * y2)) (by omega)]), hB2⟩
end Go.Proofs.Ytkfnngcphcfbjaa
