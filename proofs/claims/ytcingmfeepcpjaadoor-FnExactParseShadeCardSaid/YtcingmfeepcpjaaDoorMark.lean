/- The walk of the laws' own markText: a letter and the digits of a number. Condition: the number lies from 1 to 2^32. -/
import Derived.Test.YtcingmfeepcpjaaDoorSeq
import Derived.Test.YtcingmfeepcpjaaDoorHelp
import Derived.Laws.IdiomStrings
import Derived.Laws.BytesArg
namespace Go.Proofs.YtcingmfeepcpjaaDoor
open Go.RowKit

def dgt (m : Nat) : UInt8 := UInt8.ofNat (48 + m % 10)
theorem dgt_nat (m : Nat) : ((dgt m).toNat : Int) = 48 + (m : Int) % 10 := by
  have : (dgt m).toNat = 48 + m % 10 := by unfold dgt; rw [UInt8.toNat_ofNat']; omega
  omega
/-- The digits of a number in front of a text. -/
def mdig (m : Nat) (out : ByteArray) : ByteArray := if _h : m = 0 then out else mdig (m / 10) ((⟨#[dgt m]⟩ : ByteArray) ++ out)
termination_by m
theorem mdig_step {m : Nat} (out : ByteArray) (h : 0 < m) : mdig m out = mdig (m / 10) ((⟨#[dgt m]⟩ : ByteArray) ++ out) := by rw [mdig, dif_neg (by omega)]
theorem mdig_end (out : ByteArray) : mdig 0 out = out := by rw [mdig, dif_pos rfl]
def mtext (k : Int) : ByteArray := (⟨#[109]⟩ : ByteArray) ++ mdig k.toNat ⟨#[]⟩
theorem conv_dgt (w : World) (m : Nat) (q : Int) (hq : q = ((dgt m).toNat : Int)) :
    (convert 49 9 (.slice (some ⟨w.heap.size, 0, none⟩) 1 1)).run Tryd.prog (w.alloc (.cells #[.int .u8 q] 5)) = .ok (.string ⟨#[dgt m]⟩) (w.alloc (.cells #[.int .u8 q] 5)) := by
  subst hq
  refine run_convert_bytes_back _ 49 9 5 ⟨w.heap.size, 0, none⟩ 1 [dgt m] Tryd.underlying49 Tryd.underlying5 Tryd.underlying9 fun j hj => ?_
  obtain rfl : j = 0 := by simp at hj; omega
  exact (Blk.new w #[.int .u8 ((dgt m).toNat : Int)] 5).cell 0
theorem mdig_size : ∀ (j m : Nat) (out : ByteArray), m < 10 ^ j → (mdig m out).size ≤ out.size + j := by
  intro j
  induction j with
  | zero =>
    intro m out h
    obtain rfl : m = 0 := (by simpa using h)
    rw [mdig_end]; omega
  | succ j ih =>
    intro m out h
    by_cases h0 : 0 < m
    · rw [mdig_step out h0]
      have := ih (m / 10) ((⟨#[dgt m]⟩ : ByteArray) ++ out) (by rw [Nat.pow_succ] at h; exact Nat.div_lt_of_lt_mul (by rw [Nat.mul_comm]; exact h))
      rw [ByteArray.size_append] at this
      have e : (ByteArray.mk #[dgt m]).size = 1 := rfl
      omega
    · obtain rfl : m = 0 := by omega
      rw [mdig_end]; omega
theorem mtext_size (k : Int) (h0 : 0 ≤ k) (h1 : k ≤ 4294967296) : (mtext k).size ≤ maxLen := by
  have := mdig_size 10 k.toNat ⟨#[]⟩ (by omega)
  have e : (ByteArray.mk #[(109 : UInt8)]).size = 1 := rfl
  have e' : (ByteArray.mk #[]).size = 0 := rfl
  unfold mtext maxLen
  rw [ByteArray.size_append]
  omega
theorem bsize_cat (a b : ByteArray) : (a ++ b).size = a.size + b.size := ByteArray.size_append

end Go.Proofs.YtcingmfeepcpjaaDoor
