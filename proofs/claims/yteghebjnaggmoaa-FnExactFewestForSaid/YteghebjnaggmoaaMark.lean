/- The walk of the laws' own markText: a letter and the digits of a number. Condition: the number lies from 1 to 2^32. -/
import Derived.Test.YteghebjnaggmoaaSeq
import Derived.Test.YteghebjnaggmoaaHelp
import Derived.Laws.IdiomStrings
import Derived.Laws.BytesArg
namespace Go.Proofs.Yteghebjnaggmoaa
open Go.RowKit

def dgt (m : Nat) : UInt8 := UInt8.ofNat (48 + m % 10)
theorem dgt_nat (m : Nat) : ((dgt m).toNat : Int) = 48 + (m : Int) % 10 := by
  have : (dgt m).toNat = 48 + m % 10 := by unfold dgt; rw [UInt8.toNat_ofNat']; omega
  omega
/-- The digits of a number in front of a text. -/
def mdig (m : Nat) (out : ByteArray) : ByteArray := if _h : m = 0 then out else mdig (m / 10) ((⟨#[dgt m]⟩ : ByteArray) ++ out)
termination_by m
theorem mdig_step {m : Nat} (out : ByteArray) (h : 0 < m) : mdig m out = mdig (m / 10) ((⟨#[dgt m]⟩ : ByteArray) ++ out) := by rw [mdig, dif_neg (by omega)]
theorem mdig_end (out : ByteArray) : mdig 0 out = out := by rw [mdig, dif_pos rfl]
def mtext (k : Int) : ByteArray := (⟨#[109]⟩ : ByteArray) ++ mdig k.toNat ⟨#[]⟩
theorem conv_dgt (w : World) (m : Nat) (q : Int) (hq : q = ((dgt m).toNat : Int)) :
    (convert 72 9 (.slice (some ⟨w.heap.size, 0, none⟩) 1 1)).run Try.prog (w.alloc (.cells #[.int .u8 q] 5)) = .ok (.string ⟨#[dgt m]⟩) (w.alloc (.cells #[.int .u8 q] 5)) := by
  subst hq
  refine run_convert_bytes_back _ 72 9 5 ⟨w.heap.size, 0, none⟩ 1 [dgt m] Try.underlying72 Try.underlying5 Try.underlying9 fun j hj => ?_
  obtain rfl : j = 0 := by simp at hj; omega
  exact (Blk.new w #[.int .u8 ((dgt m).toNat : Int)] 5).cell 0
theorem mdig_size : ∀ (j m : Nat) (out : ByteArray), m < 10 ^ j → (mdig m out).size ≤ out.size + j := by
  intro j
  induction j with
  | zero =>
    intro m out h
    obtain rfl : m = 0 := (by simpa using h)
    rw [mdig_end]; omega
  | succ j ih =>
    intro m out h
    by_cases h0 : 0 < m
    · rw [mdig_step out h0]
      have := ih (m / 10) ((⟨#[dgt m]⟩ : ByteArray) ++ out) (by rw [Nat.pow_succ] at h; exact Nat.div_lt_of_lt_mul (by rw [Nat.mul_comm]; exact h))
      rw [ByteArray.size_append] at this
      have e : (ByteArray.mk #[dgt m]).size = 1 := rfl
      omega
    · obtain rfl : m = 0 := by omega
      rw [mdig_end]; omega
theorem mtext_size (k : Int) (h0 : 0 ≤ k) (h1 : k ≤ 4294967296) : (mtext k).size ≤ maxLen := by
  have := mdig_size 10 k.toNat ⟨#[]⟩ (by omega)
  have e : (ByteArray.mk #[(109 : UInt8)]).size = 1 := rfl
  have e' : (ByteArray.mk #[]).size = 0 := rfl
  unfold mtext maxLen
  rw [ByteArray.size_append]
  omega
theorem bsize_cat (a b : ByteArray) : (a ++ b).size = a.size + b.size := ByteArray.size_append

set_option maxRecDepth 100000 in
set_option maxHeartbeats 1000000 in
theorem markText_any (k : Int) (w : World) (h0 : 1 ≤ k) (h1 : k ≤ 4294967296) :
    Calls Try.prog 55 #[.int .i64 k] w (Out w (.string (mtext k))) := by
  go_enter Try.func55, Try.ntmps55
  go_wp2
  go_loopw [0, 3] (fun i s wr => ∃ (m : Nat) (out : ByteArray) (j : Nat), i = .int .i64 m ∧ s = .string out ∧ m * 10 ^ j ≤ 4294967296 ∧ out.size ≤ j ∧ mdig m out = mdig k.toNat ⟨#[]⟩ ∧ j ≤ 20 ∧ Below w.heap.size w wr) (fun i _ _ => (intOf i).toNat)
  case atStart => exact ⟨k.toNat, ⟨#[]⟩, 0, by rw [Int.toNat_of_nonneg (by omega)], rfl, by omega, by decide, rfl, by omega, Below.refl _ _⟩
  case round =>
    obtain ⟨m, out, j, rfl, rfl, hm, hs, hd, hj, hb⟩ := hrel
    have HD := Lib.hid hd
    have HM := Lib.hid hm
    have hm1 : m ≤ 4294967296 := Nat.le_trans (Nat.le_mul_of_pos_right _ (Nat.pow_pos (by omega))) hm
    clear hd hm
    by_cases hlt : 0 < m
    · have hcv := conv_dgt wr m (48 + (m : Int) % 10) (dgt_nat m).symm
      have hj10 : j < 10 := by
        have h10 : 10 ^ j ≤ 4294967296 := Nat.le_trans (Nat.le_mul_of_pos_left _ hlt) HM.out
        rcases Nat.lt_or_ge j 10 with h | h
        · exact h
        · have := Nat.pow_le_pow_right (show 0 < 10 by omega) h
          omega
      go_wp2
      go_roundw
      case rel =>
        refine ⟨m / 10, _, j + 1, by go_num, rfl, ?_, ?_, ?_, by omega, hb.alloc hb.size _⟩
        · rw [Nat.pow_succ, Nat.mul_comm (10 ^ j), ← Nat.mul_assoc]
          exact Nat.le_trans (Nat.mul_le_mul_right _ (Nat.div_mul_le_self m 10)) HM.out
        · rw [bsize_cat]; have : (ByteArray.mk #[dgt m]).size = 1 := rfl; omega
        · rw [← HD.out]; exact (mdig_step out hlt).symm
      case measure => simp [intOf]; omega
    · obtain rfl : m = 0 := by omega
      go_wp2
      go_ret
      have e : mtext k = (⟨#[109]⟩ : ByteArray) ++ out := by rw [mtext, ← HD.out, mdig_end]
      exact ⟨by rw [e]; rfl, hb⟩
end Go.Proofs.Yteghebjnaggmoaa
