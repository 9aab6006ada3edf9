/- Plain facts on points and sides: turning, lying on a side, parting. No program is named here. -/
import Derived.Below
import Derived.Test.YtgpmnkdagpcffaaBase
namespace Go.Proofs.Ytgpmnkdagpcffaa
namespace Geo
/-- The doubled area of three points. -/
def turn (a b c : Int × Int) : Int := (b.1 - a.1) * (c.2 - a.2) - (b.2 - a.2) * (c.1 - a.1)
def ptB (c : Int × Int) : Bool := inB c.1 (-200) 200 && inB c.2 (-200) 200
def btwB (a b c : Int) : Bool := decide (min a c ≤ b) && decide (b ≤ max a c)
def onB (a b p : Int × Int) : Bool := decide (turn a b p = 0) && (btwB a.1 p.1 b.1 && btwB a.2 p.2 b.2)
def passB (a b p : Int × Int) : Bool := decide (p ≠ a) && (decide (p ≠ b) && onB a b p)
def partB (a b c d : Int × Int) : Bool := (decide (turn a b c < 0) && decide (0 < turn a b d)) || (decide (0 < turn a b c) && decide (turn a b d < 0))
/-- Numbers that are small enough to be reckoned with. -/
def sm (a : Int × Int) : Prop := (-1000 ≤ a.1 ∧ a.1 ≤ 1000) ∧ (-1000 ≤ a.2 ∧ a.2 ≤ 1000)
theorem turn_bd {a b c : Int × Int} (ha : sm a) (hb : sm b) (hc : sm c) :
    (-4000000 ≤ (b.1 - a.1) * (c.2 - a.2) ∧ (b.1 - a.1) * (c.2 - a.2) ≤ 4000000) ∧ (-4000000 ≤ (b.2 - a.2) * (c.1 - a.1) ∧ (b.2 - a.2) * (c.1 - a.1) ≤ 4000000) ∧ (-8000000 ≤ turn a b c ∧ turn a b c ≤ 8000000) := by
  unfold sm at *
  have h1 := mul_bd (a := b.1 - a.1) (b := c.2 - a.2) (x := 2000) (y := 2000) (by omega) (by omega) (by omega) (by omega)
  have h2 := mul_bd (a := b.2 - a.2) (b := c.1 - a.1) (x := 2000) (y := 2000) (by omega) (by omega) (by omega) (by omega)
  unfold turn
  omega
end Geo
end Go.Proofs.Ytgpmnkdagpcffaa
