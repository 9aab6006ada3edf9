/- Wheels: rows of numbers. -/
import Derived.Test.YtkmacpkjobdffaaGreatWhO
namespace Go.Proofs.YtkmacpkjobdffaaGreat
open Go.RowKit
end Go.Proofs.YtkmacpkjobdffaaGreat
