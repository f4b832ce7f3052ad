/- The words in which chapter 7's law on baths compares. Condition: few numbers. -/
import Derived.Test.YtjlidgeeehlkcaaBathHelp
import Derived.Test.YtjlidgeeehlkcaaDyePartHelp
import Derived.Test.YtjlidgeeehlkcaaBase
import Derived.BigQuiet
namespace Go.Proofs.Ytjlidgeeehlkcaa
open Go.RowKit

set_option maxRecDepth 100000 in
set_option maxHeartbeats 1000000 in
theorem rInts_low (A A' : Option Addr) (n c n' c' B B' : Nat) (xs : List Int) (w : World) (h : Rd w B A n c xs) (h' : Rd w B' A' n' c' xs) :
    Calls Try.prog 16 #[.slice A n c, .slice A' n' c'] w (Out w (.bool true)) := by
  have hn := h.len_lt
  obtain rfl : n' = n := by rw [← h.len, ← h'.len]
  go_enter Try.func16, Try.ntmps16
  go_wp2
  go_loopw [5] (fun i wr => ∃ k q : Nat, k ≤ n' ∧ i = .int .i64 k ∧ wr = w.drewN q) (fun i _ => n' - (intOf i).toNat)
  case atStart => exact ⟨0, 0, Nat.zero_le _, rfl, rfl⟩
  case round =>
    obtain ⟨k, q, hk, rfl, rfl⟩ := hrel
    by_cases hlt : k < n'
    · obtain ⟨b, off, x, rfl, _, hc, _, _, HX⟩ := h.at hlt
      obtain ⟨b', off', x', rfl, _, hc', _, _, HX'⟩ := h'.at hlt
      obtain rfl : x' = x := HX'.out.symm.trans HX.out
      go_wp2
      go_quiet (fail)
      go_wp2
      go_roundw
      case rel => exact ⟨k + 1, _, by omega, by go_num, rfl⟩
      case measure => simp [intOf]; omega
    · go_wp2
      go_ret
      exact ⟨rfl, low_drewN w q⟩
set_option maxRecDepth 100000 in
set_option maxHeartbeats 1000000 in
theorem rBath_same (L T Y : Int) (A A' : Option Addr) (n c n' c' B B' : Nat) (xs : List Int) (w : World) (h : Rd w B A n c xs) (h' : Rd w B' A' n' c' xs) (hB : B ≤ w.heap.size) (hB' : B' ≤ w.heap.size) :
    Calls Try.prog 8 #[bathV L T Y (.slice A n c), bathV L T Y (.slice A' n' c')] w (Out w (.bool true)) := by
  have hl1 := (h.alloc hB (.cells #[.int .i64 L, .int .i64 T, .int .i64 Y, .slice A n c] 27)).alloc (by simp; omega) (.cells #[.int .i64 L, .int .i64 T, .int .i64 Y, .slice A' n' c'] 27)
  have hl2 := (h'.alloc hB' (.cells #[.int .i64 L, .int .i64 T, .int .i64 Y, .slice A n c] 27)).alloc (by simp; omega) (.cells #[.int .i64 L, .int .i64 T, .int .i64 Y, .slice A' n' c'] 27)
  have HB := ((Below.refl w.heap.size w).alloc (Nat.le_refl _) (.cells #[.int .i64 L, .int .i64 T, .int .i64 Y, .slice A n c] 27)).alloc (by simp) (.cells #[.int .i64 L, .int .i64 T, .int .i64 Y, .slice A' n' c'] 27)
  go_enter Try.func8, Try.ntmps8
  go_wp2_with fail
  refine (rInts_low A A' n c n' c' B B' xs _ hl1 hl2).mono ?_
  rintro e w1 ⟨rfl, hb⟩
  go_wp2
  go_ret
  exact ⟨rfl, HB.trans (hb.mono HB.size)⟩
end Go.Proofs.Ytjlidgeeehlkcaa
