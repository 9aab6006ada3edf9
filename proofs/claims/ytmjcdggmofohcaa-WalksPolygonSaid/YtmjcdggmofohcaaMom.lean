/- What each side of a polygon gives to the sums of First and Second. -/
import Derived.Test.YtmjcdggmofohcaaTotal
import Derived.Test.YtmjcdggmofohcaaGeo
import Derived.IntWalk
import Derived.Test.YtmjcdggmofohcaaCheck
namespace Go.Proofs.Ytmjcdggmofohcaa
open Go.RowKit

namespace Geo
def fanV (s : (Int × Int) × (Int × Int)) : Int := turn s.1 s.2 (0, 0)
def fxV (s : (Int × Int) × (Int × Int)) : Int := fanV s * (s.1.1 + s.2.1)
def fyV (s : (Int × Int) × (Int × Int)) : Int := fanV s * (s.1.2 + s.2.2)
def xxV (s : (Int × Int) × (Int × Int)) : Int := fanV s * (s.1.1 * s.1.1 + s.1.1 * s.2.1 + s.2.1 * s.2.1)
def yyV (s : (Int × Int) × (Int × Int)) : Int := fanV s * (s.1.2 * s.1.2 + s.1.2 * s.2.2 + s.2.2 * s.2.2)
def xyV (s : (Int × Int) × (Int × Int)) : Int := fanV s * (2 * s.1.1 * s.1.2 + s.1.1 * s.2.2 + s.2.1 * s.1.2 + 2 * s.2.1 * s.2.2)
theorem fan_bd {s : (Int × Int) × (Int × Int)} (h1 : sm s.1) (h2 : sm s.2) : -8000000 ≤ fanV s ∧ fanV s ≤ 8000000 := (turn_bd h1 h2 (by unfold sm; omega)).2.2
theorem sq_bd {a b : Int} (h1 : -1000 ≤ a ∧ a ≤ 1000) (h2 : -1000 ≤ b ∧ b ≤ 1000) : -1000000 ≤ a * b ∧ a * b ≤ 1000000 := mul_bd (x := 1000) (y := 1000) h1.1 h1.2 h2.1 h2.2
theorem times_bd {t m M : Int} (h1 : -8000000 ≤ t ∧ t ≤ 8000000) (h2 : -M ≤ m ∧ m ≤ M) : -(8000000 * M) ≤ t * m ∧ t * m ≤ 8000000 * M := mul_bd (x := 8000000) (y := M) h1.1 h1.2 h2.1 h2.2
end Geo

theorem mom_keep {w0 W w' : World} {g : Nat} {a b c d : Int}
    (hS : Below w0.heap.size w0 W ∧ (W.cell? ⟨g, 0, none⟩ = some (.int .i64 a) ∧ W.cell? ⟨g, 1, none⟩ = some (.int .i64 b) ∧ W.cell? ⟨g, 2, none⟩ = some (.int .i64 c) ∧ W.cell? ⟨g, 3, none⟩ = some (.int .i64 d)))
    (hg : g < w0.heap.size) (hb : Below W.heap.size W w') :
    Below w0.heap.size w0 w' ∧ (w'.cell? ⟨g, 0, none⟩ = some (.int .i64 a) ∧ w'.cell? ⟨g, 1, none⟩ = some (.int .i64 b) ∧ w'.cell? ⟨g, 2, none⟩ = some (.int .i64 c) ∧ w'.cell? ⟨g, 3, none⟩ = some (.int .i64 d)) := by
  obtain ⟨q, h0, h1, h2, h3⟩ := hS
  have hz := q.size
  have c0 : g < W.heap.size := by omega
  exact ⟨q.trans (hb.mono hz), (hb.cell c0).trans h0, (hb.cell c0).trans h1, (hb.cell c0).trans h2, (hb.cell c0).trans h3⟩
theorem mom_keep3 {w0 W w' : World} {g p r : Nat} {a b c d e f i j : Value}
    (hS : Below w0.heap.size w0 W ∧ (W.cell? ⟨g, 0, none⟩ = some a ∧ W.cell? ⟨g, 1, none⟩ = some b ∧ W.cell? ⟨g, 2, none⟩ = some c ∧ W.cell? ⟨g, 3, none⟩ = some d) ∧ (W.cell? ⟨p, 0, none⟩ = some e ∧ W.cell? ⟨p, 1, none⟩ = some f) ∧ (W.cell? ⟨r, 0, none⟩ = some i ∧ W.cell? ⟨r, 1, none⟩ = some j))
    (hg : g < w0.heap.size) (hp : p < w0.heap.size) (hr : r < w0.heap.size) (hb : Below W.heap.size W w') :
    Below w0.heap.size w0 w' ∧ (w'.cell? ⟨g, 0, none⟩ = some a ∧ w'.cell? ⟨g, 1, none⟩ = some b ∧ w'.cell? ⟨g, 2, none⟩ = some c ∧ w'.cell? ⟨g, 3, none⟩ = some d) ∧ (w'.cell? ⟨p, 0, none⟩ = some e ∧ w'.cell? ⟨p, 1, none⟩ = some f) ∧ (w'.cell? ⟨r, 0, none⟩ = some i ∧ w'.cell? ⟨r, 1, none⟩ = some j) := by
  obtain ⟨q, ⟨h0, h1, h2, h3⟩, ⟨h4, h5⟩, h6, h7⟩ := hS
  have hz := q.size
  have c0 : g < W.heap.size := by omega
  have c1 : p < W.heap.size := by omega
  have c2 : r < W.heap.size := by omega
  exact ⟨q.trans (hb.mono hz), ⟨(hb.cell c0).trans h0, (hb.cell c0).trans h1, (hb.cell c0).trans h2, (hb.cell c0).trans h3⟩, ⟨(hb.cell c1).trans h4, (hb.cell c1).trans h5⟩, (hb.cell c2).trans h6, (hb.cell c2).trans h7⟩
theorem below_keep4 {W w1 w2 : World} {B : Nat} {a b c d : Value} (h : Below W.heap.size W w1 ∧ BoxS w1 B 98 #[a, b, c, d]) (hb : Below w1.heap.size w1 w2) : Below W.heap.size W w2 ∧ BoxS w2 B 98 #[a, b, c, d] :=
  ⟨h.1.trans (hb.mono h.1.size), h.2.below hb⟩
theorem sumOf_mid {B : Int} {v : Int} (h : -B ≤ v ∧ v ≤ B) (hB : B ≤ 1000000000000000) : -1000000000000000 ≤ v ∧ v ≤ 1000000000000000 := by omega

end Go.Proofs.Ytmjcdggmofohcaa

namespace Go.Proofs.Ytmjcdggmofohcaa
open Go.RowKit Go.Shelf

namespace Geo
/-- The sum of what each side gives. -/
def tot (f : Pt × Pt → Int) (ps : List Pt) : Int := ((sidesL ps).map f).sum
end Geo
theorem sumOf_tot (f : Geo.Pt × Geo.Pt → Int) (ps : List Geo.Pt) (h : ∀ p ∈ ps, Geo.sm p) : sumOf (fun s => f s.1) (sidesTo ps h ps.length) = Geo.tot f ps := by
  unfold sumOf Geo.tot
  rw [← sidesTo_val ps h, List.map_map]
  rfl
theorem total_any (A : Option Addr) (c : Nat) (ps : List Geo.Pt) (hps : ∀ p ∈ ps, Geo.sm p) (hlen : ps.length ≤ 100) (g : Nat) (f : Geo.Pt × Geo.Pt → Int)
    (hf : ∀ s : Geo.Pt × Geo.Pt, Geo.sm s.1 → Geo.sm s.2 → -1000000000000000 ≤ f s ∧ f s ≤ 1000000000000000)
    (eg : ∀ args W, (callFunc g args).run Try.prog W = .ok (.enter g args) W)
    (hg : ∀ x1 y1 x2 y2 W, Geo.sm (x1, y1) → Geo.sm (x2, y2) → Calls Try.prog g #[.agg #[.int .i64 x1, .int .i64 y1, .int .i64 x2, .int .i64 y2]] W fun e W' => e = .returned (.int .i64 (f ((x1, y1), (x2, y2)))) ∧ Below W.heap.size W W') (w : World) (hP : Prs w w.heap.size A ps) :
    Calls Try.prog 93 #[.slice A ps.length c, .func (.func g) #[] #[]] w fun e w' => e = .returned (.int .i64 (Geo.tot f ps)) ∧ Below w.heap.size w w' := by
  have := total_in 9 (by omega) A c ps hps hlen g (fun s => f s.1) (fun x => hf x.1 x.2.1 x.2.2) eg (fun x m W => callsIn_wide.2 (hg _ _ _ _ W x.2.1 x.2.2)) w hP
  rw [sumOf_tot] at this
  exact (callsIn_wide (n := 9)).1 this

set_option maxHeartbeats 1000000 in
theorem doubled_any (A : Option Addr) (c : Nat) (ps : List Geo.Pt) (hps : ∀ p ∈ ps, Geo.sm p) (hlen : ps.length ≤ 100) (w : World) (hP : Prs w w.heap.size A ps) :
    Calls Try.prog 74 #[.slice A ps.length c] w fun e w' => e = .returned (.int .i64 (Geo.tot Geo.fanV ps)) ∧ Below w.heap.size w w' := by
  have H : Hid (Calls Try.prog 93 #[.slice A ps.length c, .func (.func 94) #[] #[]] w fun e w' => e = .returned (.int .i64 (Geo.tot Geo.fanV ps)) ∧ Below w.heap.size w w') :=
    total_any A c ps hps hlen 94 Geo.fanV (fun s h1 h2 => by have := Geo.fan_bd h1 h2; omega) (enters_of Try.func94 (by kernel_rfl) rfl) (fun x1 y1 x2 y2 W h1 h2 => fan_any x1 y1 x2 y2 W h1 h2) w hP
  clear hP hps hlen
  generalize Geo.tot Geo.fanV ps = T at *
  go_enter Try.func74, Try.ntmps74
  go_wp2_with fail
  refine H.out.mono ?_
  rintro e w1 ⟨rfl, hb1⟩
  go_wp2_with fail
  go_returns
  exact ⟨rfl, hb1⟩
-- GEN
namespace Geo
def whenV (ps : List Pt) (v : Int) : Int := if validB ps then v else 0
theorem whenV_yes {ps : List Pt} (h : validB ps = true) (v : Int) : whenV ps v = v := by unfold whenV; rw [if_pos h]
theorem whenV_no {ps : List Pt} (h : validB ps = false) (v : Int) : whenV ps v = 0 := by unfold whenV; rw [h]; rfl
theorem errV_yes {ps : List Pt} (h : validB ps = true) : errV ps = 0 := by unfold errV; rw [if_pos h]
theorem errV_no {ps : List Pt} (h : validB ps = false) : errV ps = 20 := by unfold errV; rw [h]; rfl
theorem valid_sm {ps : List Pt} (h : validB ps = true) : ∀ p ∈ ps, sm p := fun p hp => pt_sm (((validB_parts ps).1 h).2.1.1 p hp)
theorem valid_len {ps : List Pt} (h : validB ps = true) : 3 ≤ ps.length ∧ ps.length ≤ 10 := ((validB_parts ps).1 h).1
theorem fx_bd {s : Pt × Pt} (h1 : sm s.1) (h2 : sm s.2) : -1000000000000000 ≤ fxV s ∧ fxV s ≤ 1000000000000000 := by
  have ht := fan_bd h1 h2
  unfold sm at h1 h2
  have := times_bd (t := fanV s) (m := s.1.1 + s.2.1) (M := 2000) ht (by omega)
  unfold fxV
  omega
theorem fy_bd {s : Pt × Pt} (h1 : sm s.1) (h2 : sm s.2) : -1000000000000000 ≤ fyV s ∧ fyV s ≤ 1000000000000000 := by
  have ht := fan_bd h1 h2
  unfold sm at h1 h2
  have := times_bd (t := fanV s) (m := s.1.2 + s.2.2) (M := 2000) ht (by omega)
  unfold fyV
  omega
theorem xx_bd {s : Pt × Pt} (h1 : sm s.1) (h2 : sm s.2) : -1000000000000000 ≤ xxV s ∧ xxV s ≤ 1000000000000000 := by
  have ht := fan_bd h1 h2
  unfold sm at h1 h2
  have q1 := sq_bd (a := s.1.1) (b := s.1.1) (by omega) (by omega)
  have q2 := sq_bd (a := s.1.1) (b := s.2.1) (by omega) (by omega)
  have q3 := sq_bd (a := s.2.1) (b := s.2.1) (by omega) (by omega)
  have := times_bd (t := fanV s) (m := s.1.1 * s.1.1 + s.1.1 * s.2.1 + s.2.1 * s.2.1) (M := 3000000) ht (by omega)
  unfold xxV
  omega
theorem yy_bd {s : Pt × Pt} (h1 : sm s.1) (h2 : sm s.2) : -1000000000000000 ≤ yyV s ∧ yyV s ≤ 1000000000000000 := by
  have ht := fan_bd h1 h2
  unfold sm at h1 h2
  have q1 := sq_bd (a := s.1.2) (b := s.1.2) (by omega) (by omega)
  have q2 := sq_bd (a := s.1.2) (b := s.2.2) (by omega) (by omega)
  have q3 := sq_bd (a := s.2.2) (b := s.2.2) (by omega) (by omega)
  have := times_bd (t := fanV s) (m := s.1.2 * s.1.2 + s.1.2 * s.2.2 + s.2.2 * s.2.2) (M := 3000000) ht (by omega)
  unfold yyV
  omega
theorem xy_bd {s : Pt × Pt} (h1 : sm s.1) (h2 : sm s.2) : -1000000000000000 ≤ xyV s ∧ xyV s ≤ 1000000000000000 := by
  have ht := fan_bd h1 h2
  unfold sm at h1 h2
  have q1 := sq_bd (a := s.1.1) (b := s.1.2) (by omega) (by omega)
  have q2 := sq_bd (a := s.1.1) (b := s.2.2) (by omega) (by omega)
  have q3 := sq_bd (a := s.2.1) (b := s.1.2) (by omega) (by omega)
  have q4 := sq_bd (a := s.2.1) (b := s.2.2) (by omega) (by omega)
  have e1 : 2 * s.1.1 * s.1.2 = 2 * (s.1.1 * s.1.2) := Int.mul_assoc _ _ _
  have e2 : 2 * s.2.1 * s.2.2 = 2 * (s.2.1 * s.2.2) := Int.mul_assoc _ _ _
  have := times_bd (t := fanV s) (m := 2 * s.1.1 * s.1.2 + s.1.1 * s.2.2 + s.2.1 * s.1.2 + 2 * s.2.1 * s.2.2) (M := 6000000) ht (by omega)
  unfold xyV
  omega
end Geo
theorem ret_tup {a b : Array Value} (h : a = b) : Ending.returned (.tuple a) = .returned (.tuple b) := by rw [h]

end Go.Proofs.Ytmjcdggmofohcaa
