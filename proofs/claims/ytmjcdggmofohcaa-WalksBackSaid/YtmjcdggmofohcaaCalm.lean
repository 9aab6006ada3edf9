/- A region that cannot panic: what a panic would have to leave need not be asked of it. No program is named here. -/
import Derived.Test.YtmjcdggmofohcaaFence
import Derived.Test.YtmjcdggmofohcaaLoops
namespace Go.Proofs.Ytmjcdggmofohcaa
open Go.RowKit
def calm (Q : Exit → Act → World → Prop) : Exit → Act → World → Prop
  | .panic _, _, _ => False
  | e, a, w => Q e a w
theorem wpIn_calm {F : Fence} {n : Nat} {P : Program} {Q : Exit → Act → World → Prop} {c : Code} {a : Act} {w : World} (h : c.wpIn F n P (calm Q) a w) : c.wpIn F n P Q a w :=
  wpIn_mono h fun e a' w' hq => by
    cases e with
    | panic ch => exact hq.elim
    | normal => exact hq
    | ret => exact hq
    | exit id => exact hq
    | goto t => exact hq
    | outgrown => exact hq
theorem calm_normal {Q : Exit → Act → World → Prop} {a : Act} {w : World} (h : Q .normal a w) : calm Q .normal a w := h
end Go.Proofs.Ytmjcdggmofohcaa
