/- Sums of wages and WagesBetween: the walks of the model. Conditions: as they stand. -/
import Derived.Test.YtnpojmaipndpmaaWages
import Derived.Test.YtnpojmaipndpmaaSheetsS
namespace Go.Proofs.Ytnpojmaipndpmaa
open Go.RowKit

def bothP (v f t : Int) (a : WorkSheetR) : Bool := ownP v a && dayP f t a
end Go.Proofs.Ytnpojmaipndpmaa
