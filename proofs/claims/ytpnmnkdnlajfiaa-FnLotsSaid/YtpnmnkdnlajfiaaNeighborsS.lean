/- The walk of the model's AreaNeighbors. No condition. -/
import Derived.Test.YtpnmnkdnlajfiaaNeighbors
namespace Go.Proofs.Ytpnmnkdnlajfiaa
open Go.RowKit

end Go.Proofs.Ytpnmnkdnlajfiaa
