/- The walks of the laws' own helpers over the struct WorkSheet and slices of it. Condition: at most 1048576 elements. -/
import Derived.Test.YtihhlldpdfihfaaWorkSheetData
import Derived.Test.YtihhlldpdfihfaaHelp
namespace Go.Proofs.Ytihhlldpdfihfaa
open Go.RowKit

theorem info_WorkSheet : (Try.prog.info? 36).map (fun i => (i.zero, i.size, i.bytes)) = some (some (.agg #[.int .i64 0, .int .i64 0, .int .i64 0, .int .i64 0, .int .i64 0]), 5, 40) := by kernel_rfl
/-- What marking leaves. -/
def markedWorkSheet (k : Int) (n : Nat) : List WorkSheetR := (List.range n).map fun j : Nat => ⟨k + 5 * (j : Int), k + 5 * (j : Int) + 1, k + 5 * (j : Int) + 1 + 1, k + 5 * (j : Int) + 1 + 1 + 1, k + 5 * (j : Int) + 1 + 1 + 1 + 1⟩
theorem markedWorkSheet_len (k : Int) (n : Nat) : (markedWorkSheet k n).length = n := by simp [markedWorkSheet]
theorem markedWorkSheet_at (k : Int) (n j : Nat) (h : j < n) : (markedWorkSheet k n)[j]? = some ⟨k + 5 * (j : Int), k + 5 * (j : Int) + 1, k + 5 * (j : Int) + 1 + 1, k + 5 * (j : Int) + 1 + 1 + 1, k + 5 * (j : Int) + 1 + 1 + 1 + 1⟩ := by simp [markedWorkSheet, h]
end Go.Proofs.Ytihhlldpdfihfaa
