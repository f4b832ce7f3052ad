/- The walks over a stock, both texts. No condition. -/
import Derived.Test.YtndoianocmekmaaPickI
import Derived.Test.YtndoianocmekmaaBase
import Derived.BigQuiet
namespace Go.Proofs.Ytndoianocmekmaa
open Go.RowKit

def stockB (l : List Int) : Bool := decide (l.length = 6) && l.all (fun x => decide (0 ≤ x))
theorem stockB_at {l : List Int} (h : stockB l = true) : l.length = 6 ∧ ∀ k, k < 6 → 0 ≤ l.getD k 0 := by
  simp only [stockB, Bool.and_eq_true, decide_eq_true_eq, List.all_eq_true] at h
  refine ⟨h.1, fun k hk => ?_⟩
  rw [getD_at (by omega)]
  exact h.2 _ (List.getElem_mem _)
set_option maxRecDepth 100000 in
set_option maxHeartbeats 1000000 in
theorem isColorStock_any (A : Option Addr) (n c B : Nat) (xs : List Int) (w : World) (h : Rd w B A n c xs) :
    Calls Try.prog 46 #[.slice A n c] w fun e w' => e = .returned (.bool (stockB xs)) ∧ w = w' := by
  have hlt := h.len_lt
  have hl := h.len
  by_cases hn : n = 6
  · subst hn
    have HS := Lib.hid (show stockB xs = decide (0 ≤ Lib.minOf xs) by rw [minOf_all (by omega)]; simp [stockB, hl])
    go_enter Try.func46, Try.ntmps46
    go_wp2_with (go_at_call 63; (with_reducible refine (minI_any _ _ _ _ _ _ h (by omega)).mono ?_); rintro e w' ⟨rfl, rfl⟩)
    go_ret
    exact ⟨ret_bool HS.out.symm, rfl⟩
  · have HS := Lib.hid (show stockB xs = false by simp [stockB, hl, hn])
    have hn' : ¬ ((n : Int) = 6) := by omega
    go_enter Try.func46, Try.ntmps46
    go_wp2
    go_ret
    exact ⟨ret_bool HS.out.symm, rfl⟩
set_option maxRecDepth 100000 in
set_option maxHeartbeats 1000000 in
theorem l10Stock_any (A : Option Addr) (n c B : Nat) (xs : List Int) (w : World) (h : Rd w B A n c xs) :
    Calls Try.prog 47 #[.slice A n c] w fun e w' => e = .returned (.bool (stockB xs)) ∧ w = w' := by
  have hlt := h.len_lt
  have hl := h.len
  go_enter Try.func47, Try.ntmps47
  go_wp2
  go_loopw [3] (fun s3 wr => ∃ k : Nat, k ≤ n ∧ s3 = .int .i64 k ∧ Hid (∀ i, i < k → 0 ≤ xs.getD i 0) ∧ wr = w) (fun s3 _ => n - (intOf s3).toNat)
  case atStart => exact ⟨0, Nat.zero_le _, rfl, Lib.hid fun i hi => by omega, rfl⟩
  case round =>
    obtain ⟨k, hk, rfl, HK, rfl⟩ := hrel
    by_cases hkn : k < n
    · obtain ⟨b, off, x, rfl, hbB, hcx, _, _, HXx⟩ := h.at hkn
      by_cases hx : x < 0
      · have HS := Lib.hid (show stockB xs = false by
          rw [← Bool.not_eq_true]
          intro hh
          have h1 := (stockB_at hh).1
          have := (stockB_at hh).2 k (by omega)
          rw [HXx.out] at this
          omega)
        clear HK HXx
        go_wp2
        go_ret
        exact ⟨ret_bool HS.out.symm, rfl⟩
      · have HN := Lib.hid (show ∀ i, i < k + 1 → 0 ≤ xs.getD i 0 from fun i hi => by
          by_cases hik : i = k
          · subst hik; rw [HXx.out]; omega
          · exact HK.out i (by omega))
        clear HK HXx
        go_wp2
        go_roundw
        case rel => exact ⟨k + 1, by omega, by go_num, HN, by first | rfl | trivial⟩
        case measure => simp [intOf]; omega
    · have HS := Lib.hid (show stockB xs = decide (n = 6) by
        have : xs.all (fun x => decide (0 ≤ x)) = true := by
          rw [List.all_eq_true]
          intro x hx
          obtain ⟨j, hj, rfl⟩ := List.getElem_of_mem hx
          have := HK.out j (by omega)
          rw [getD_at hj] at this
          exact decide_eq_true this
        rw [stockB, this, hl, Bool.and_true])
      clear HK
      go_wp2
      go_ret
      exact ⟨ret_bool (by rw [HS.out, Bool.eq_iff_iff]; simp; omega), rfl⟩
end Go.Proofs.Ytndoianocmekmaa
