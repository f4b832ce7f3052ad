/- The walk of the model's l1Stands: whether a byte stands in a text. -/
import Derived.Test.YtojfjadmgaogcaaDoorRows
import Derived.WalkKit
import Derived.WalkSpells
import Derived.WalkLawsBesides
import Derived.Lib.Hide
namespace Go.Proofs.YtojfjadmgaogcaaDoor
open Go.RowKit

theorem sizeL (s : ByteArray) : s.data.toList.length = s.size := by rw [Array.length_toList]; rfl
theorem takeS (s : ByteArray) (k : Nat) (h : k < s.size) : s.data.toList.take (k + 1) = s.data.toList.take k ++ [s[k]] := by
  rw [List.take_succ_eq_append_getElem (by rw [sizeL]; exact h)]; rfl
theorem takeAllS (s : ByteArray) (k : Nat) (h : ¬ k < s.size) : s.data.toList.take k = s.data.toList := List.take_of_length_le (by rw [sizeL]; omega)
theorem retBool {a b : Bool} (h : a = b) : Ending.returned (.bool a) = .returned (.bool b) := by rw [h]
theorem byteNe {a b : UInt8} (h : a ≠ b) : (((a.toNat : Int)) == ((b.toNat : Int))) = false := by
  apply beq_eq_false_iff_ne.2; intro e; exact h (UInt8.toNat_inj.1 (by omega))
def HasB (l : List UInt8) (c : UInt8) : Bool := l.contains c

set_option maxRecDepth 100000 in
set_option maxHeartbeats 400000 in
theorem l1Stands_any (s : ByteArray) (c : UInt8) (w : World) (hs : s.size ≤ maxLen) :
    Calls Tryd.prog 28 #[.string s, .int .u8 (c.toNat : Int)] w fun e w' => e = .returned (.bool (HasB s.data.toList c)) ∧ w = w' := by
  unfold maxLen at hs
  go_enter Tryd.func28, Tryd.ntmps28
  go_wp2
  go_loop [5] (fun i => ∃ k : Nat, k ≤ s.size ∧ i = .int .i64 k ∧ HasB (s.data.toList.take k) c = false) (fun i => s.size - (intOf i).toNat)
  case atStart => exact ⟨0, Nat.zero_le _, rfl, rfl⟩
  case round =>
    obtain ⟨k, hk, rfl, hno⟩ := hrel
    have HN := Lib.hid hno
    clear hno
    by_cases hlt : k < s.size
    · by_cases hc : s[k] = c
      · have HY : Hid (HasB s.data.toList c = true) := Lib.hid (by
          unfold HasB; rw [List.contains_iff_mem, ← hc]
          exact (show s.data.toList[k]'(by rw [sizeL]; exact hlt) ∈ s.data.toList from List.getElem_mem _))
        have hq : ((s[k].toNat : Int) == (c.toNat : Int)) = true := by rw [hc]; exact beq_self_eq_true _
        clear hc
        go_wp2
        go_ret
        exact ⟨retBool HY.out.symm, rfl⟩
      · have HY : Hid (HasB (s.data.toList.take (k + 1)) c = false) := Lib.hid (by
          have := HN.out
          unfold HasB at this ⊢
          rw [takeS s k hlt]; simp only [List.contains_eq_mem, decide_eq_false_iff_not, List.mem_append, List.mem_singleton, not_or] at this ⊢
          exact ⟨this, fun e => hc e.symm⟩)
        have hq := byteNe hc
        clear hc
        go_wp2
        all_goals
          go_round
          case rel => exact ⟨k + 1, by omega, by go_num, HY.out⟩
          case measure => simp [intOf]; omega
    · have HY : Hid (HasB s.data.toList c = false) := Lib.hid (by rw [← takeAllS s k hlt]; exact HN.out)
      go_wp2
      go_ret
      exact ⟨retBool HY.out.symm, rfl⟩
end Go.Proofs.YtojfjadmgaogcaaDoor
