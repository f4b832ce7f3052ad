/- The walks of the laws' own helpers over the struct Weaver and slices of it. Condition: at most 1048576 elements. -/
import Derived.Test.YtanfblpibomfaaaWeaverData
import Derived.Test.YtanfblpibomfaaaHelp
import Derived.Test.YtanfblpibomfaaaMark
namespace Go.Proofs.Ytanfblpibomfaaa
open Go.RowKit

theorem info_Weaver : (Try.prog.info? 40).map (fun i => (i.zero, i.size, i.bytes)) = some (some (.agg #[.int .i64 0, .string ⟨#[]⟩, .int .i64 0, .int .i64 0, .int .i64 0]), 5, 48) := by kernel_rfl
/-- How much the strings of the elements hold. -/
def bulkWeaver (xs : List WeaverR) : Nat := (xs.map fun s => s.f1.size).sum
theorem bulkWeaver_step {xs : List WeaverR} {k : Nat} {a : WeaverR} (h : xs[k]? = some a) : bulkWeaver (xs.take (k + 1)) = bulkWeaver (xs.take k) + (a.f1.size) ∧ bulkWeaver (xs.take (k + 1)) ≤ bulkWeaver xs := by
  obtain ⟨hk, rfl⟩ := List.getElem?_eq_some_iff.1 h
  have e : bulkWeaver (xs.take (k + 1)) + bulkWeaver (xs.drop (k + 1)) = bulkWeaver xs := by
    unfold bulkWeaver
    rw [← List.sum_append_nat, ← List.map_append, List.take_append_drop]
  refine ⟨?_, by omega⟩
  unfold bulkWeaver
  rw [List.take_succ_eq_append_getElem hk, List.map_append, List.sum_append_nat]
  simp only [List.map_cons, List.map_nil, List.sum_cons, List.sum_nil, Nat.add_zero]
/-- What marking leaves. -/
def markedWeaver (k : Int) (n : Nat) : List WeaverR := (List.range n).map fun j : Nat => ⟨k + 5 * (j : Int), mtext (k + 5 * (j : Int) + 1), k + 5 * (j : Int) + 1 + 1, k + 5 * (j : Int) + 1 + 1 + 1, k + 5 * (j : Int) + 1 + 1 + 1 + 1⟩
theorem markedWeaver_len (k : Int) (n : Nat) : (markedWeaver k n).length = n := by simp [markedWeaver]
theorem markedWeaver_at (k : Int) (n j : Nat) (h : j < n) : (markedWeaver k n)[j]? = some ⟨k + 5 * (j : Int), mtext (k + 5 * (j : Int) + 1), k + 5 * (j : Int) + 1 + 1, k + 5 * (j : Int) + 1 + 1 + 1, k + 5 * (j : Int) + 1 + 1 + 1 + 1⟩ := by simp [markedWeaver, h]
end Go.Proofs.Ytanfblpibomfaaa
