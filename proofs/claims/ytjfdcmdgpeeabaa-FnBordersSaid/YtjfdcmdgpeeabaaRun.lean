/- The walks of LongestRun, the program's and the model's, and of what they call. No condition. -/
import Derived.Test.YtjfdcmdgpeeabaaKnot
import Derived.Test.YtjfdcmdgpeeabaaRunMath
namespace Go.Proofs.Ytjfdcmdgpeeabaa
open Go.RowKit

theorem l2At_int (m k r j b off c : Nat) (i i' : Int) (xs : List Int) (x : Int) (w : World) (hi : i = r) (hi' : i' = j) (h : xs.length = m * k) (h64 : m * k ≤ 64) (hr : r < k) (hj : j < m) (hB : b < w.heap.size)
    (hx : w.cell? ⟨b, off + (r * m + j), none⟩ = some (.int .i64 x)) :
    Calls Try.prog 73 #[chartV m k (.slice (some ⟨b, off, none⟩) xs.length c), .int .i64 i, .int .i64 i'] w (Out w (.int .i64 x)) := by
  subst hi; subst hi'
  exact l2At_any m k r j b off c xs x w h h64 hr hj hB hx
end Go.Proofs.Ytjfdcmdgpeeabaa
