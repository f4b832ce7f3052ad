/- The walk of the model's l1Stands: whether a byte stands in a text. -/
import Derived.Test.YtcingmfeepcpjaaDoorRows
import Derived.WalkKit
import Derived.WalkSpells
import Derived.WalkLawsBesides
import Derived.Lib.Hide
namespace Go.Proofs.YtcingmfeepcpjaaDoor
open Go.RowKit

theorem sizeL (s : ByteArray) : s.data.toList.length = s.size := by rw [Array.length_toList]; rfl
theorem takeS (s : ByteArray) (k : Nat) (h : k < s.size) : s.data.toList.take (k + 1) = s.data.toList.take k ++ [s[k]] := by
  rw [List.take_succ_eq_append_getElem (by rw [sizeL]; exact h)]; rfl
theorem takeAllS (s : ByteArray) (k : Nat) (h : ¬ k < s.size) : s.data.toList.take k = s.data.toList := List.take_of_length_le (by rw [sizeL]; omega)
theorem retBool {a b : Bool} (h : a = b) : Ending.returned (.bool a) = .returned (.bool b) := by rw [h]
theorem byteNe {a b : UInt8} (h : a ≠ b) : (((a.toNat : Int)) == ((b.toNat : Int))) = false := by
  apply beq_eq_false_iff_ne.2; intro e; exact h (UInt8.toNat_inj.1 (by omega))
def HasB (l : List UInt8) (c : UInt8) : Bool := l.contains c

end Go.Proofs.YtcingmfeepcpjaaDoor
