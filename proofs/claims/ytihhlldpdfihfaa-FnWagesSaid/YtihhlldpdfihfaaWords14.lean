/- The words in which chapter 14's laws over a code compare. Condition: few numbers. -/
import Derived.Test.YtihhlldpdfihfaaPay
import Derived.BigQuiet
namespace Go.Proofs.Ytihhlldpdfihfaa
open Go.RowKit

set_option maxRecDepth 100000 in
set_option maxHeartbeats 1000000 in
theorem rInts_low (A A' : Option Addr) (n c n' c' B B' : Nat) (xs : List Int) (w : World) (h : Rd w B A n c xs) (h' : Rd w B' A' n' c' xs) :
    Calls Try.prog 8 #[.slice A n c, .slice A' n' c'] w (Out w (.bool true)) := by
  have hn := h.len_lt
  obtain rfl : n' = n := by rw [← h.len, ← h'.len]
  go_enter Try.func8, Try.ntmps8
  go_wp2
  go_loopw [5] (fun i wr => ∃ k q : Nat, k ≤ n' ∧ i = .int .i64 k ∧ wr = w.drewN q) (fun i _ => n' - (intOf i).toNat)
  case atStart => exact ⟨0, 0, Nat.zero_le _, rfl, rfl⟩
  case round =>
    obtain ⟨k, q, hk, rfl, rfl⟩ := hrel
    by_cases hlt : k < n'
    · obtain ⟨b, off, x, rfl, _, hc, _, _, HX⟩ := h.at hlt
      obtain ⟨b', off', x', rfl, _, hc', _, _, HX'⟩ := h'.at hlt
      obtain rfl : x' = x := HX'.out.symm.trans HX.out
      go_wp2
      go_quiet (fail)
      go_wp2
      go_roundw
      case rel => exact ⟨k + 1, _, by omega, by go_num, rfl⟩
      case measure => simp [intOf]; omega
    · go_wp2
      go_ret
      exact ⟨rfl, low_drewN w q⟩
set_option maxRecDepth 100000 in
set_option maxHeartbeats 1000000 in
theorem rHas_eq (A : Option Addr) (n c B : Nat) (xs : List Int) (x : Int) (w : World) (d : Bool) (h : Rd w B A n c xs) (hd : Hid (decide (x ∈ xs) = d)) :
    Calls Try.prog 10 #[.slice A n c, .int .i64 x] w fun e w' => e = .returned (.bool d) ∧ w = w' := by
  have hn := h.len_lt
  have HL := Lib.hid h.len
  go_enter Try.func10, Try.ntmps10
  go_wp2
  go_loopw [5] (fun i wr => ∃ k : Nat, k ≤ n ∧ i = .int .i64 k ∧ Hid (∀ j y, j < k → xs[j]? = some y → y ≠ x) ∧ wr = w) (fun i _ => n - (intOf i).toNat)
  case atStart => exact ⟨0, Nat.zero_le _, rfl, Lib.hid (fun j y hj => by omega), rfl⟩
  case round =>
    obtain ⟨k, hk, rfl, HK, hw⟩ := hrel
    subst hw
    by_cases hlt : k < n
    · obtain ⟨b, off, y, rfl, hy, hgy⟩ := rd_get h hlt
      have HG := Lib.hid hgy
      clear hgy
      by_cases e : y = x
      · have HD := Lib.hid (show d = true by rw [← hd.out]; exact decide_eq_true (e ▸ List.mem_of_getElem? HG.out))
        have e' : (y == x) = true := by simp [e]
        clear e
        go_wp2
        go_ret
        exact ⟨ret_bool HD.out.symm, rfl⟩
      · have HN := Lib.hid (show ∀ j z, j < k + 1 → xs[j]? = some z → z ≠ x from fun j z hj hz => by
          rcases Nat.lt_or_ge j k with h1 | h1
          · exact HK.out j z h1 hz
          · obtain rfl : j = k := by omega
            rw [HG.out] at hz
            cases hz
            exact e)
        have e' : (y == x) = false := by simp [e]
        clear e
        go_wp2
        go_roundw
        case rel => exact ⟨k + 1, by omega, by go_num, HN, by first | rfl | trivial⟩
        case measure => simp [intOf]; omega
    · obtain rfl : k = n := by omega
      have HD := Lib.hid (show d = false by
        rw [← hd.out]
        refine decide_eq_false fun hm => ?_
        obtain ⟨j, hj, e⟩ := List.mem_iff_getElem.1 hm
        exact HK.out j x (by have := HL.out; omega) (by rw [List.getElem?_eq_getElem hj, e]) rfl)
      go_wp2
      go_ret
      exact ⟨ret_bool HD.out.symm, rfl⟩
def sumI : List Int → Int
  | [] => 0
  | x :: xs => x + sumI xs
theorem sumI_drop {xs : List Int} {k : Nat} {x : Int} (hx : xs[k]? = some x) : sumI (xs.drop k) = x + sumI (xs.drop (k + 1)) := by
  obtain ⟨hlt, e⟩ := List.getElem?_eq_some_iff.1 hx
  rw [List.drop_eq_getElem_cons hlt, e]
  rfl
set_option maxRecDepth 100000 in
set_option maxHeartbeats 1000000 in
theorem rSum_eq (A : Option Addr) (n c B : Nat) (xs : List Int) (w : World) (v : Int) (h : Rd w B A n c xs) (hn : n ≤ 1000) (hb : Hid (∀ x ∈ xs, 0 ≤ x ∧ x ≤ 100000000)) (hv : Hid (sumI xs = v)) :
    Calls Try.prog 11 #[.slice A n c] w fun e w' => e = .returned (.int .i64 v) ∧ w = w' := by
  have HL := Lib.hid h.len
  go_enter Try.func11, Try.ntmps11
  go_wp2
  go_loopw [4, 3] (fun i s wr => ∃ (k : Nat) (m : Int), k ≤ n ∧ i = .int .i64 k ∧ s = .int .i64 m ∧ 0 ≤ m ∧ m ≤ 100000000 * (k : Int) ∧ Hid (m + sumI (xs.drop k) = v) ∧ wr = w) (fun i _ _ => n - (intOf i).toNat)
  case atStart => exact ⟨0, 0, Nat.zero_le _, rfl, rfl, by omega, by omega, Lib.hid (by simpa using hv.out), rfl⟩
  case round =>
    obtain ⟨k, m, hk, rfl, rfl, hm0, hm1, HY, hw⟩ := hrel
    subst hw
    by_cases hlt : k < n
    · obtain ⟨b, off, y, rfl, hy, hgy⟩ := rd_get h hlt
      have HN := Lib.hid (show (m + y) + sumI (xs.drop (k + 1)) = v by rw [← HY.out, sumI_drop hgy]; omega)
      obtain ⟨y0, y1⟩ := hb.out y (List.mem_of_getElem? hgy)
      clear hgy
      go_wp2
      go_roundw
      case rel => exact ⟨k + 1, m + y, by omega, by go_num, by go_num, by omega, by omega, HN, by first | rfl | trivial⟩
      case measure => simp [intOf]; omega
    · obtain rfl : k = n := by omega
      have HE := Lib.hid (show m = v by have := HY.out; rw [List.drop_of_length_le (by have := HL.out; omega)] at this; simpa [sumI] using this)
      go_wp2
      go_ret
      exact ⟨ret_int HE.out, rfl⟩
end Go.Proofs.Ytihhlldpdfihfaa
