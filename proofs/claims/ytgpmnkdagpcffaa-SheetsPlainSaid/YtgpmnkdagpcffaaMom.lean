/- What each side of a polygon gives to the sums of First and Second. -/
import Derived.Test.YtgpmnkdagpcffaaTotal
import Derived.Test.YtgpmnkdagpcffaaGeoB
import Derived.IntWalk
namespace Go.Proofs.Ytgpmnkdagpcffaa
open Go.RowKit

namespace Geo
def fanV (s : (Int × Int) × (Int × Int)) : Int := turn s.1 s.2 (0, 0)
def fxV (s : (Int × Int) × (Int × Int)) : Int := fanV s * (s.1.1 + s.2.1)
def fyV (s : (Int × Int) × (Int × Int)) : Int := fanV s * (s.1.2 + s.2.2)
def xxV (s : (Int × Int) × (Int × Int)) : Int := fanV s * (s.1.1 * s.1.1 + s.1.1 * s.2.1 + s.2.1 * s.2.1)
def yyV (s : (Int × Int) × (Int × Int)) : Int := fanV s * (s.1.2 * s.1.2 + s.1.2 * s.2.2 + s.2.2 * s.2.2)
def xyV (s : (Int × Int) × (Int × Int)) : Int := fanV s * (2 * s.1.1 * s.1.2 + s.1.1 * s.2.2 + s.2.1 * s.1.2 + 2 * s.2.1 * s.2.2)
theorem fan_bd {s : (Int × Int) × (Int × Int)} (h1 : sm s.1) (h2 : sm s.2) : -8000000 ≤ fanV s ∧ fanV s ≤ 8000000 := (turn_bd h1 h2 (by unfold sm; omega)).2.2
theorem sq_bd {a b : Int} (h1 : -1000 ≤ a ∧ a ≤ 1000) (h2 : -1000 ≤ b ∧ b ≤ 1000) : -1000000 ≤ a * b ∧ a * b ≤ 1000000 := mul_bd (x := 1000) (y := 1000) h1.1 h1.2 h2.1 h2.2
theorem times_bd {t m M : Int} (h1 : -8000000 ≤ t ∧ t ≤ 8000000) (h2 : -M ≤ m ∧ m ≤ M) : -(8000000 * M) ≤ t * m ∧ t * m ≤ 8000000 * M := mul_bd (x := 8000000) (y := M) h1.1 h1.2 h2.1 h2.2
end Geo

theorem mom_keep {w0 W w' : World} {g : Nat} {a b c d : Int}
    (hS : Below w0.heap.size w0 W ∧ (W.cell? ⟨g, 0, none⟩ = some (.int .i64 a) ∧ W.cell? ⟨g, 1, none⟩ = some (.int .i64 b) ∧ W.cell? ⟨g, 2, none⟩ = some (.int .i64 c) ∧ W.cell? ⟨g, 3, none⟩ = some (.int .i64 d)))
    (hg : g < w0.heap.size) (hb : Below W.heap.size W w') :
    Below w0.heap.size w0 w' ∧ (w'.cell? ⟨g, 0, none⟩ = some (.int .i64 a) ∧ w'.cell? ⟨g, 1, none⟩ = some (.int .i64 b) ∧ w'.cell? ⟨g, 2, none⟩ = some (.int .i64 c) ∧ w'.cell? ⟨g, 3, none⟩ = some (.int .i64 d)) := by
  obtain ⟨q, h0, h1, h2, h3⟩ := hS
  have hz := q.size
  have c0 : g < W.heap.size := by omega
  exact ⟨q.trans (hb.mono hz), (hb.cell c0).trans h0, (hb.cell c0).trans h1, (hb.cell c0).trans h2, (hb.cell c0).trans h3⟩
theorem mom_keep3 {w0 W w' : World} {g p r : Nat} {a b c d e f i j : Value}
    (hS : Below w0.heap.size w0 W ∧ (W.cell? ⟨g, 0, none⟩ = some a ∧ W.cell? ⟨g, 1, none⟩ = some b ∧ W.cell? ⟨g, 2, none⟩ = some c ∧ W.cell? ⟨g, 3, none⟩ = some d) ∧ (W.cell? ⟨p, 0, none⟩ = some e ∧ W.cell? ⟨p, 1, none⟩ = some f) ∧ (W.cell? ⟨r, 0, none⟩ = some i ∧ W.cell? ⟨r, 1, none⟩ = some j))
    (hg : g < w0.heap.size) (hp : p < w0.heap.size) (hr : r < w0.heap.size) (hb : Below W.heap.size W w') :
    Below w0.heap.size w0 w' ∧ (w'.cell? ⟨g, 0, none⟩ = some a ∧ w'.cell? ⟨g, 1, none⟩ = some b ∧ w'.cell? ⟨g, 2, none⟩ = some c ∧ w'.cell? ⟨g, 3, none⟩ = some d) ∧ (w'.cell? ⟨p, 0, none⟩ = some e ∧ w'.cell? ⟨p, 1, none⟩ = some f) ∧ (w'.cell? ⟨r, 0, none⟩ = some i ∧ w'.cell? ⟨r, 1, none⟩ = some j) := by
  obtain ⟨q, ⟨h0, h1, h2, h3⟩, ⟨h4, h5⟩, h6, h7⟩ := hS
  have hz := q.size
  have c0 : g < W.heap.size := by omega
  have c1 : p < W.heap.size := by omega
  have c2 : r < W.heap.size := by omega
  exact ⟨q.trans (hb.mono hz), ⟨(hb.cell c0).trans h0, (hb.cell c0).trans h1, (hb.cell c0).trans h2, (hb.cell c0).trans h3⟩, ⟨(hb.cell c1).trans h4, (hb.cell c1).trans h5⟩, (hb.cell c2).trans h6, (hb.cell c2).trans h7⟩
theorem below_keep4 {W w1 w2 : World} {B : Nat} {a b c d : Value} (h : Below W.heap.size W w1 ∧ BoxS w1 B 142 #[a, b, c, d]) (hb : Below w1.heap.size w1 w2) : Below W.heap.size W w2 ∧ BoxS w2 B 142 #[a, b, c, d] :=
  ⟨h.1.trans (hb.mono h.1.size), h.2.below hb⟩
theorem sumOf_mid {B : Int} {v : Int} (h : -B ≤ v ∧ v ≤ B) (hB : B ≤ 1000000000000000) : -1000000000000000 ≤ v ∧ v ≤ 1000000000000000 := by omega

end Go.Proofs.Ytgpmnkdagpcffaa
