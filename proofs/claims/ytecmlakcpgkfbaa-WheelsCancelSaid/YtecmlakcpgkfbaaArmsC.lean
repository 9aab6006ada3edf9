/- Contracts of Reduce, Add, Mul and Compare of package arms. -/
import Derived.Test.YtecmlakcpgkfbaaArmsB
namespace Go.Proofs.Ytecmlakcpgkfbaa
open Go.RowKit




end Go.Proofs.Ytecmlakcpgkfbaa
