/- The walks of the laws' own helpers over the struct DyePart and slices of it. Condition: at most 1048576 elements. -/
import Derived.Test.YtjlidgeeehlkcaaDyePartData
import Derived.Test.YtjlidgeeehlkcaaHelp
import Derived.Test.YtjlidgeeehlkcaaMark
namespace Go.Proofs.Ytjlidgeeehlkcaa
open Go.RowKit

theorem info_DyePart : (Try.prog.info? 43).map (fun i => (i.zero, i.size, i.bytes)) = some (some (.agg #[.string ⟨#[]⟩, .int .i64 0]), 2, 24) := by kernel_rfl
/-- How much the strings of the elements hold. -/
def bulkDyePart (xs : List DyePartR) : Nat := (xs.map fun s => s.f0.size).sum
theorem bulkDyePart_step {xs : List DyePartR} {k : Nat} {a : DyePartR} (h : xs[k]? = some a) : bulkDyePart (xs.take (k + 1)) = bulkDyePart (xs.take k) + (a.f0.size) ∧ bulkDyePart (xs.take (k + 1)) ≤ bulkDyePart xs := by
  obtain ⟨hk, rfl⟩ := List.getElem?_eq_some_iff.1 h
  have e : bulkDyePart (xs.take (k + 1)) + bulkDyePart (xs.drop (k + 1)) = bulkDyePart xs := by
    unfold bulkDyePart
    rw [← List.sum_append_nat, ← List.map_append, List.take_append_drop]
  refine ⟨?_, by omega⟩
  unfold bulkDyePart
  rw [List.take_succ_eq_append_getElem hk, List.map_append, List.sum_append_nat]
  simp only [List.map_cons, List.map_nil, List.sum_cons, List.sum_nil, Nat.add_zero]
/-- What marking leaves. -/
def markedDyePart (k : Int) (n : Nat) : List DyePartR := (List.range n).map fun j : Nat => ⟨mtext (k + 2 * (j : Int)), k + 2 * (j : Int) + 1⟩
theorem markedDyePart_len (k : Int) (n : Nat) : (markedDyePart k n).length = n := by simp [markedDyePart]
theorem markedDyePart_at (k : Int) (n j : Nat) (h : j < n) : (markedDyePart k n)[j]? = some ⟨mtext (k + 2 * (j : Int)), k + 2 * (j : Int) + 1⟩ := by simp [markedDyePart, h]
end Go.Proofs.Ytjlidgeeehlkcaa
