/- Wheels: rows of numbers. -/
import Derived.Test.YtkmacpkjobdffaaWhO
namespace Go.Proofs.Ytkmacpkjobdffaa
open Go.RowKit
end Go.Proofs.Ytkmacpkjobdffaa
