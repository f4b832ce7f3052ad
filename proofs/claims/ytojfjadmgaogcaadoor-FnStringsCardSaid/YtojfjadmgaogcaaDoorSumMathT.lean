/- The checksum as plain mathematics: its bounds and its step. No condition. -/
import Derived.WalkKit
namespace Go.Proofs.YtojfjadmgaogcaaDoor
def chkStep (h : Int) (c : UInt8) : Int := (41 * h + (c.toNat : Int) + 1) % 999979
def chk (l : List UInt8) : Int := l.foldl chkStep 7
theorem chkStep_bd (h : Int) (c : UInt8) : 0 ≤ chkStep h c ∧ chkStep h c < 999979 := by unfold chkStep; omega
theorem chk_bd_aux (l : List UInt8) : ∀ h : Int, 0 ≤ h ∧ h < 999979 → 0 ≤ l.foldl chkStep h ∧ l.foldl chkStep h < 999979 := by
  induction l with
  | nil => intro h hh; exact hh
  | cons c l ih => intro h _; exact ih _ (chkStep_bd h c)
theorem chk_bd (l : List UInt8) : 0 ≤ chk l ∧ chk l < 999979 := chk_bd_aux l 7 (by omega)
theorem chk_snoc (l : List UInt8) (c : UInt8) : chk (l ++ [c]) = (41 * chk l + (c.toNat : Int) + 1) % 999979 := by
  unfold chk; rw [List.foldl_append]; rfl
theorem take_snoc (s : ByteArray) (k : Nat) (h : k < s.size) : s.data.toList.take (k + 1) = s.data.toList.take k ++ [s[k]] := by
  rw [List.take_succ_eq_append_getElem (by simpa using h)]; rfl
theorem chk_take (s : ByteArray) (k : Nat) (h : k < s.size) : chk (s.data.toList.take (k + 1)) = (41 * chk (s.data.toList.take k) + (s[k].toNat : Int) + 1) % 999979 := by
  rw [take_snoc s k h, chk_snoc]
theorem ret_intT {k : IntKind} {a b : Int} (h : a = b) : Ending.returned (.int k a) = .returned (.int k b) := by rw [h]
theorem ret2_intT {k : IntKind} {a b : Int} {v : Value} (h : a = b) : Ending.returned (.tuple #[.int k a, v]) = .returned (.tuple #[.int k b, v]) := by rw [h]
end Go.Proofs.YtojfjadmgaogcaaDoor
