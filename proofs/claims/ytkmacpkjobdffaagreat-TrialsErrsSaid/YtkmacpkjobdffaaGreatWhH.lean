/- Wheels: how many truths there are. -/
import Derived.Test.YtkmacpkjobdffaaGreatWhG
namespace Go.Proofs.YtkmacpkjobdffaaGreat
open Go.RowKit Go.Shelf
attribute [local go_sem] Oper.semAt_some
namespace Wh
def manyV (s : Desk) : Int := if spE s = 0 then (truthsL s).length else 0
theorem casesL_len (s : Desk) (hs : Ok s) : (casesL s).length ≤ 410000 := by
  unfold casesL
  rw [casesTo_len]
  have h1 : na s ≤ 10000 := by unfold na; have := hs.g1; have := hs.g3; omega
  have h2 : nb s ≤ 41 := by unfold nb; have := hs.k2; omega
  exact Nat.mul_le_mul h1 h2
theorem truthsL_len (s : Desk) (hs : Ok s) : (truthsL s).length ≤ 410000 := Nat.le_trans (List.length_filter_le _ _) (casesL_len s hs)
end Wh

end Go.Proofs.YtkmacpkjobdffaaGreat
