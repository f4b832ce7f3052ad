/- The library's copy of a row of numbers. Condition: the row is short. -/
import Derived.Test.YtgahompcejbjoaaCopy
namespace Go.Proofs.Ytgahompcejbjoaa
open Go.RowKit

end Go.Proofs.Ytgahompcejbjoaa
