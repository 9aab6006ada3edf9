/- Contracts of Value, Set, Off and Scale of package arms. -/
import Derived.Test.YtecmlakcpgkfbaaArmsF
namespace Go.Proofs.Ytecmlakcpgkfbaa
open Go.RowKit

theorem inB_one : inB 1 1 100 = true := by decide

end Go.Proofs.Ytecmlakcpgkfbaa
