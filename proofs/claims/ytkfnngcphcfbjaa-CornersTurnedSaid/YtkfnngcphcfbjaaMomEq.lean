/- What each triangle from the first corner gives to First and Second, and that the sums of both sides are equal. -/
import Derived.Test.YtkfnngcphcfbjaaEqual
namespace Go.Proofs.Ytkfnngcphcfbjaa
namespace Geo
def prodV (a b c : Int) : Int := a * a + b * b + c * c + a * b + b * c + c * a
def fxT (a b c : Pt) : Int := turn a b c * (a.1 + b.1 + c.1)
def fyT (a b c : Pt) : Int := turn a b c * (a.2 + b.2 + c.2)
def xxT (a b c : Pt) : Int := turn a b c * prodV a.1 b.1 c.1
def yyT (a b c : Pt) : Int := turn a b c * prodV a.2 b.2 c.2
def xyT (a b c : Pt) : Int := turn a b c * ((a.1 + b.1 + c.1) * (a.2 + b.2 + c.2) + a.1 * a.2 + b.1 * b.2 + c.1 * c.2)
theorem fx_eq (ps : List Pt) (hn : 2 ≤ ps.length) : tot fxV ps = fanS fxT ps (ps.length - 2) :=
  tot_fan fxV fxT ps hn (fun a b => by unfold fxV fanV turn; simp only; grind) (fun a b c => by unfold fxV fxT fanV turn; simp only; grind)
theorem fy_eq (ps : List Pt) (hn : 2 ≤ ps.length) : tot fyV ps = fanS fyT ps (ps.length - 2) :=
  tot_fan fyV fyT ps hn (fun a b => by unfold fyV fanV turn; simp only; grind) (fun a b c => by unfold fyV fyT fanV turn; simp only; grind)
theorem xx_eq (ps : List Pt) (hn : 2 ≤ ps.length) : tot xxV ps = fanS xxT ps (ps.length - 2) :=
  tot_fan xxV xxT ps hn (fun a b => by unfold xxV fanV turn; simp only; grind) (fun a b c => by unfold xxV xxT prodV fanV turn; simp only; grind)
theorem yy_eq (ps : List Pt) (hn : 2 ≤ ps.length) : tot yyV ps = fanS yyT ps (ps.length - 2) :=
  tot_fan yyV yyT ps hn (fun a b => by unfold yyV fanV turn; simp only; grind) (fun a b c => by unfold yyV yyT prodV fanV turn; simp only; grind)
theorem xy_eq (ps : List Pt) (hn : 2 ≤ ps.length) : tot xyV ps = fanS xyT ps (ps.length - 2) :=
  tot_fan xyV xyT ps hn (fun a b => by unfold xyV fanV turn; simp only; grind) (fun a b c => by unfold xyV xyT fanV turn; simp only; grind)
end Geo
end Go.Proofs.Ytkfnngcphcfbjaa
