/- The walks of AreaNeighbors, both texts. No condition. -/
import Derived.Test.YtpnmnkdnlajfiaaPlacesA
import Derived.Test.YtpnmnkdnlajfiaaSortInt
import Derived.Test.YtpnmnkdnlajfiaaHas1
import Derived.Test.YtpnmnkdnlajfiaaPut1
namespace Go.Proofs.Ytpnmnkdnlajfiaa
open Go.RowKit

end Go.Proofs.Ytpnmnkdnlajfiaa
