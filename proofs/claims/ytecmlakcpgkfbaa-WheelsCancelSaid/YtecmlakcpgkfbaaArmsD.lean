/- Contracts of Add, Mul and Compare of package arms. -/
import Derived.Test.YtecmlakcpgkfbaaArmsC
namespace Go.Proofs.Ytecmlakcpgkfbaa
open Go.RowKit



theorem ret_2 {k : IntKind} {a a' c c' : Int} (h : a = a') (h2 : c = c') :
    Ending.returned (.tuple #[.int k a, .int k c]) = .returned (.tuple #[.int k a', .int k c']) := by rw [h, h2]

end Go.Proofs.Ytecmlakcpgkfbaa
