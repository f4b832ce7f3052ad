/- The walk of what draws a text out of some (where any1 is not reached). Condition: few draws. -/
import Derived.Test.YtihhlldpdfihfaaPick
import Derived.Test.YtihhlldpdfihfaaStrs
namespace Go.Proofs.Ytihhlldpdfihfaa
open Go.RowKit

/-- What a draw of a text leaves. -/
def DrewText (w : World) (p k : Nat) (P : ByteArray → Prop) (e : Ending) (w' : World) : Prop := ∃ y : ByteArray, e = .returned (.string y) ∧ P y ∧ Cur w' p k ∧ w.grownBy w' (some p)
/-- A small list of texts that the call itself has laid. -/
theorem lit_strs (w : World) (xs : List ByteArray) (h : ∀ x ∈ xs, x.size ≤ maxLen) (hn : xs.length ≤ 1000) :
    RdF strF (w.alloc (.cells (xs.map Value.string).toArray 9)) (w.heap.size + 1) (some ⟨w.heap.size, 0, none⟩) xs.length xs.length xs :=
  (OwnF.made strF (lo := w.heap.size) (xs.map Value.string).toArray xs (Nat.le_refl _) (by unfold maxLen; omega) (by rw [strF_flat]) h).rd.more (by simp)
end Go.Proofs.Ytihhlldpdfihfaa
