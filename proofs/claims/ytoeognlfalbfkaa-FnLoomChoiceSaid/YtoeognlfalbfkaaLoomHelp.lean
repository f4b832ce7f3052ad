/- The walks of the laws' own helpers over the struct Loom and slices of it. Condition: at most 1048576 elements. -/
import Derived.Test.YtoeognlfalbfkaaLoomData
import Derived.Test.YtoeognlfalbfkaaHelp
namespace Go.Proofs.Ytoeognlfalbfkaa
open Go.RowKit

theorem info_Loom : (Try.prog.info? 37).map (fun i => (i.zero, i.size, i.bytes)) = some (some (.agg #[.int .i64 0, .int .i64 0, .int .i64 0, .int .i64 0, .int .i64 0]), 5, 40) := by kernel_rfl
/-- What marking leaves. -/
def markedLoom (k : Int) (n : Nat) : List LoomR := (List.range n).map fun j : Nat => ⟨k + 5 * (j : Int), k + 5 * (j : Int) + 1, k + 5 * (j : Int) + 1 + 1, k + 5 * (j : Int) + 1 + 1 + 1, k + 5 * (j : Int) + 1 + 1 + 1 + 1⟩
theorem markedLoom_len (k : Int) (n : Nat) : (markedLoom k n).length = n := by simp [markedLoom]
theorem markedLoom_at (k : Int) (n j : Nat) (h : j < n) : (markedLoom k n)[j]? = some ⟨k + 5 * (j : Int), k + 5 * (j : Int) + 1, k + 5 * (j : Int) + 1 + 1, k + 5 * (j : Int) + 1 + 1 + 1, k + 5 * (j : Int) + 1 + 1 + 1 + 1⟩ := by simp [markedLoom, h]
end Go.Proofs.Ytoeognlfalbfkaa
