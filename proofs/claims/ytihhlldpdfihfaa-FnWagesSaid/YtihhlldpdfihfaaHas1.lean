/- The walk of the model's l1Has: is a number in a list. No condition. -/
import Derived.Test.YtihhlldpdfihfaaMem
import Derived.Test.YtihhlldpdfihfaaBase
namespace Go.Proofs.Ytihhlldpdfihfaa
open Go.RowKit

theorem l1Has_eq (A : Option Addr) (n c B : Nat) (xs : List Int) (x : Int) (w : World) (h : Rd w B A n c xs) (d : Bool) (hd : decide (x ∈ xs) = d) :
    Calls Try.prog 50 #[.slice A n c, .int .i64 x] w fun e w' => e = .returned (.bool d) ∧ w = w' := by
  have hn := h.len_lt
  obtain rfl := h.len
  have HD := Lib.hid hd
  clear hd
  go_enter Try.func50, Try.ntmps50
  go_wp2
  go_loopw [5] (fun i wr => ∃ j : Nat, j ≤ xs.length ∧ i = .int .i64 j ∧ Hid (∀ q, q < j → ¬ xs.getD q 0 = x) ∧ wr = w) (fun i _ => xs.length - (intOf i).toNat)
  case atStart => exact ⟨0, Nat.zero_le _, rfl, Lib.hid fun q hq => absurd hq (Nat.not_lt_zero _), rfl⟩
  case round =>
    obtain ⟨j, hj, rfl, HN, rfl⟩ := hrel
    by_cases hlt : j < xs.length
    · obtain ⟨b, off, y, rfl, _, hy, _, _, HY⟩ := h.at hlt
      by_cases hyx : y = x
      · subst hyx
        have H := Lib.hid (show d = true by
          rw [← HD.out, decide_eq_true_eq, ← HY.out, getD_at hlt]
          exact List.getElem_mem hlt)
        go_wp2
        go_ret
        exact ⟨ret_bool H.out.symm, by first | rfl | trivial⟩
      · have hne : (y == x) = false := by simpa using hyx
        have H := Lib.hid (show ∀ q, q < j + 1 → ¬ xs.getD q 0 = x from fun q hq => by
          by_cases e : q = j
          · subst e; rw [HY.out]; exact hyx
          · exact HN.out q (by omega))
        go_wp2
        go_roundw
        case rel => exact ⟨j + 1, by omega, by go_num, H, by first | rfl | trivial⟩
        case measure => simp [intOf]; omega
    · have H := Lib.hid (show d = false by
        rw [← HD.out, decide_eq_false_iff_not]
        intro hm
        obtain ⟨q, hq, e⟩ := List.getElem_of_mem hm
        exact HN.out q (by omega) (by rw [getD_at hq]; exact e))
      go_wp2
      go_ret
      exact ⟨ret_bool H.out.symm, by first | rfl | trivial⟩

end Go.Proofs.Ytihhlldpdfihfaa
