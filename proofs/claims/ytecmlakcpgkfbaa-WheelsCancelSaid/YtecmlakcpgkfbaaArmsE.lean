/- Contracts of the specification's Reduce, Add, Mul and Compare. -/
import Derived.Test.YtecmlakcpgkfbaaArmsD
namespace Go.Proofs.Ytecmlakcpgkfbaa
open Go.RowKit

theorem cell_drewN (w : World) (n : Nat) (a : Addr) : (w.drewN n).cell? a = w.cell? a := rfl
/-- A result that is one ratio in memory. -/
theorem ret_rat1 {fn : Func} {p : Tmp} {a : Act} {w : World} {R : Ending → World → Prop} {b : Nat} {x y : Value} (h : fn.results = #[.cell p 111])
    (hp : a.tmps.getD p undef = .pointer (some ⟨b, 0, none⟩)) (hx : w.cell? ⟨b, 0, none⟩ = some x) (hy : w.cell? ⟨b, 1, none⟩ = some y)
    (hd : a.defers = []) (hR : R (.returned (.agg #[x, y])) w) : bodyPost Try.prog fn R .ret a w := by
  refine bodyPost_ret ?_ hd hR
  have hp' : a.tmps[p]?.getD undef = .pointer (some ⟨b, 0, none⟩) := by simpa using hp
  simp [results, h, hp', asAddr, load_rat w b x y hx hy]
theorem ret_a {a b a' b' : Int} (h : a = a') (h2 : b = b') : Ending.returned (.agg #[.int .i64 a, .int .i64 b]) = .returned (.agg #[.int .i64 a', .int .i64 b']) := by rw [h, h2]



end Go.Proofs.Ytecmlakcpgkfbaa
