/- The laws' own words for a sum of numbers, pairs and lists of numbers. Condition: at most 1000 numbers. -/
import Derived.Test.YtgkflgfjbaobcaaDrawBase
import Derived.Test.YtgkflgfjbaobcaaPairEq
import Derived.Test.YtgkflgfjbaobcaaPairHelp
import Derived.StillTailTactics
import Derived.BigQuiet
namespace Go.Proofs.Ytgkflgfjbaobcaa
open Go.RowKit

theorem sum_bd12 {xs : List Int} (h : ∀ x ∈ xs, 0 ≤ x ∧ x ≤ 1000) (k : Nat) : 0 ≤ (xs.take k).sum ∧ (xs.take k).sum ≤ 1000 * (k : Int) := by
  induction k with
  | zero => simp
  | succ k ih =>
    by_cases hk : k < xs.length
    · rw [List.take_succ_eq_append_getElem hk, List.sum_append_int, List.sum_cons, List.sum_nil, Int.add_zero]
      have := h _ (List.getElem_mem hk)
      omega
    · rw [List.take_of_length_le (by omega)] at ih ⊢
      omega
set_option maxRecDepth 100000 in
set_option maxHeartbeats 400000 in
theorem vSum12 (A : Option Addr) (n c B : Nat) (xs : List Int) (w : World) (v : Int) (h : Rd w B A n c xs) (hn : n ≤ 1000) (hxh : Hid (∀ x ∈ xs, 0 ≤ x ∧ x ≤ 1000)) (hv : Hid (xs.sum = v)) :
    Calls Try.prog 14 #[.slice A n c] w fun e w' => e = .returned (.int .i64 v) ∧ w = w' := by
  have hx := hxh.out
  have hl := h.len
  go_enter Try.func14, Try.ntmps14
  go_wp2
  go_loop [3, 4] (fun s i => ∃ k : Nat, k ≤ n ∧ i = .int .i64 k ∧ s = .int .i64 (xs.take k).sum) (fun _ i => n - (intOf i).toNat)
  case atStart => exact ⟨0, Nat.zero_le _, rfl, by simp⟩
  case round =>
    obtain ⟨k, hk, rfl, rfl⟩ := hrel
    by_cases hlt : k < n
    · obtain ⟨b, off, x, rfl, _, hc, _, _, HX⟩ := h.at hlt
      have hs := sum_bd12 hx k
      have hxb : 0 ≤ x ∧ x ≤ 1000 := by
        have := hx _ (List.getElem_mem (show k < xs.length by omega))
        rw [← HX.out, getD_at (by omega)]; exact this
      have HS := Lib.hid (show (xs.take (k + 1)).sum = (xs.take k).sum + x by
        rw [List.take_succ_eq_append_getElem (by omega), List.sum_append_int, List.sum_cons, List.sum_nil, Int.add_zero, ← HX.out, getD_at (by omega)])
      generalize (xs.take k).sum = S at *
      go_wp2
      go_round
      case rel => exact ⟨k + 1, by omega, by go_num, by rw [HS.out]⟩
      case measure => simp [intOf]; omega
    · obtain rfl : k = n := by omega
      have HV := Lib.hid (show (xs.take k).sum = v by rw [List.take_of_length_le (by omega)]; exact hv.out)
      generalize (xs.take k).sum = S at *
      go_wp2
      go_ret
      exact ⟨ret_int HV.out, rfl⟩
set_option maxRecDepth 100000 in
set_option maxHeartbeats 2000000 in
theorem vPairs_same (A A' : Option Addr) (n c n' c' B B' : Nat) (xs : List PairR) (w : World) (h : RdF pairF w B A n c xs) (h' : RdF pairF w B' A' n' c' xs) (hB : B ≤ w.heap.size) (hB' : B' ≤ w.heap.size) :
    Calls Try.prog 10 #[.slice A n c, .slice A' n' c'] w (Out w (.bool true)) := by
  have hmx := h.len_lt
  obtain rfl := h.len
  obtain rfl := h'.len
  go_enter Try.func10, Try.ntmps10
  go_wp2
  go_loopw [5] (fun i wr => ∃ j : Nat, j ≤ xs.length ∧ i = .int .i64 j ∧ Below w.heap.size w wr) (fun i _ => xs.length - (intOf i).toNat)
  case atStart => exact ⟨0, Nat.zero_le _, rfl, Below.refl _ _⟩
  case round =>
    obtain ⟨j, hj, rfl, HB⟩ := hrel
    by_cases hlt : j < xs.length
    · obtain ⟨b, off, s, rfl, _, _, HX, hc0, hc1⟩ := Pair_at (h.all HB hB) hlt
      obtain ⟨b', off', s', rfl, _, _, HX', hd0, hd1⟩ := Pair_at (h'.all HB hB') hlt
      obtain rfl : s = s' := Option.some.inj (HX.out.symm.trans HX'.out)
      have hk0 : (0 : Int) ≤ (j : Int) := by omega
      have hkn : (j : Int) < (xs.length : Int) := by omega
      have hpe := fun w => pairEq s.f0 s.f1 s.f0 s.f1 w
      simp only [beq_self_eq_true, Bool.and_self] at hpe
      go_wp2
      go_quiet (fail)
      clear hpe
      go_wp2
      go_roundw
      case rel => exact ⟨j + 1, by omega, by go_num, belowN HB _⟩
      case measure => simp [intOf]; omega
    · obtain rfl : j = xs.length := by omega
      go_wp2
      go_ret
      exact ⟨rfl, HB⟩
theorem vInts_low (A A' : Option Addr) (n c n' c' B B' : Nat) (xs : List Int) (w : World) (h : Rd w B A n c xs) (h' : Rd w B' A' n' c' xs) :
    Calls Try.prog 13 #[.slice A n c, .slice A' n' c'] w fun e w' => e = .returned (.bool true) ∧ Below w.heap.size w w' := by
  refine (vInts_same A A' n c n' c' B B' xs w h h').mono ?_
  rintro e w' ⟨rfl, q, rfl⟩
  exact ⟨rfl, low_drewN w q⟩
end Go.Proofs.Ytgkflgfjbaobcaa
