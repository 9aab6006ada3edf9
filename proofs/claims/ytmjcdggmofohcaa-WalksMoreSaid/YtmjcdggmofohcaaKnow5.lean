/- Walks: an error that elbows can have. -/
import Derived.Test.YtmjcdggmofohcaaWlM
namespace Go.Proofs.Ytmjcdggmofohcaa
open Go.RowKit
set_option maxRecDepth 100000 in
set_option maxHeartbeats 8000000 in
theorem isKnown5_any (e : Int) (w : World) : Calls Try.prog 38 #[.int .i64 e] w fun x w' => x = .returned (.bool (decide (e = 0) || decide (e = 3))) ∧ w' = w := by
  by_cases h : e = 0
  · subst h
    go_enter Try.func38, Try.ntmps38
    go_wp2
    go_ret
    exact ⟨rfl, rfl⟩
  · have hb : (e == 0) = false := by simpa using h
    by_cases h3 : e = 3
    · subst h3
      go_enter Try.func38, Try.ntmps38
      go_wp2
      go_ret
      exact ⟨rfl, rfl⟩
    · have hb3 : (e == 3) = false := by simpa using h3
      have hd : (decide (e = 0) || decide (e = 3)) = false := by simp [h, h3]
      rw [hd]
      clear hd h h3
      go_enter Try.func38, Try.ntmps38
      go_wp2
      go_ret
      exact ⟨rfl, rfl⟩
end Go.Proofs.Ytmjcdggmofohcaa
