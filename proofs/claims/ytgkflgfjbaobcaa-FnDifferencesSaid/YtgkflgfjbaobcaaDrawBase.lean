/- What the walks of laws over drawn charts share: a cursor made, the laws' own comparisons. Condition: few knots. -/
import Derived.Test.YtgkflgfjbaobcaaDrawChart
import Derived.Test.YtgkflgfjbaobcaaHelpChart
import Derived.BigQuiet
namespace Go.Proofs.Ytgkflgfjbaobcaa
open Go.RowKit

/-- A chart small enough to be drawn. -/
def Small (W H : Int) (xs : List Int) : Prop := xs.length ≤ 1000 ∧ I64 W ∧ I64 H
/-- What a draw of a chart out of a code leaves. -/
def GaveChart (w : World) (e : Ending) (w' : World) : Prop := ∃ (W H : Int) (A : Option Addr) (c : Nat) (xs : List Int), e = .returned (chartV W H (.slice A xs.length c)) ∧ Small W H xs ∧ Own w' w.heap.size (.slice A xs.length c) xs ∧ Below w.heap.size w w'
/-- The same with two numbers. -/
def GaveChartTwo (w : World) (e : Ending) (w' : World) : Prop := ∃ (W H : Int) (A : Option Addr) (c : Nat) (xs : List Int) (f t : Int), e = .returned (.tuple #[chartV W H (.slice A xs.length c), .int .i64 f, .int .i64 t]) ∧ Small W H xs ∧ I64 f ∧ I64 t ∧ Own w' w.heap.size (.slice A xs.length c) xs ∧ Below w.heap.size w w'
theorem cur_new {w : World} {B n c : Nat} {A : Option Addr} (h : RdB w B A n c) (hB : B ≤ w.heap.size) (hn : n ≤ 65536) : Cur (w.alloc (.cells #[.slice A n c, .int .i64 0, .int .u64 0] 45)) w.heap.size 0 :=
  ⟨B, A, n, c, 0, 0, Blk.new _ _ _, h.alloc hB _, hB, hn, Nat.le_refl _⟩
theorem vBig_eq (A : Option Addr) (n c : Nat) (w : World) (hn : n ≤ 9223372036854775807) (d : Bool) (hd : decide (65536 < n) = d) : Calls Try.prog 4 #[.slice A n c] w fun e w' => e = .returned (.bool d) ∧ w = w' := by
  subst hd
  go_enter Try.func4, Try.ntmps4
  go_wp2
  go_ret
  exact ⟨ret_bool (by rw [Bool.eq_iff_iff]; simp <;> omega), rfl⟩
set_option maxRecDepth 100000 in
set_option maxHeartbeats 400000 in
theorem vInts_same (A A' : Option Addr) (n c n' c' B B' : Nat) (xs : List Int) (w : World) (h : Rd w B A n c xs) (h' : Rd w B' A' n' c' xs) :
    Calls Try.prog 13 #[.slice A n c, .slice A' n' c'] w fun e w' => e = .returned (.bool true) ∧ ∃ q, w' = w.drewN q := by
  have hn := h.len_lt
  obtain rfl : n' = n := by rw [← h.len, ← h'.len]
  go_enter Try.func13, Try.ntmps13
  go_wp2
  go_loopw [5] (fun i wr => ∃ k q : Nat, k ≤ n' ∧ i = .int .i64 k ∧ wr = w.drewN q) (fun i _ => n' - (intOf i).toNat)
  case atStart => exact ⟨0, 0, Nat.zero_le _, rfl, rfl⟩
  case round =>
    obtain ⟨k, q, hk, rfl, rfl⟩ := hrel
    by_cases hlt : k < n'
    · obtain ⟨b, off, x, rfl, _, hc, _, _, HX⟩ := h.at hlt
      obtain ⟨b', off', x', rfl, _, hc', _, _, HX'⟩ := h'.at hlt
      obtain rfl : x' = x := HX'.out.symm.trans HX.out
      go_wp2
      go_quiet (fail)
      go_wp2
      go_roundw
      case rel => exact ⟨k + 1, _, by omega, by go_num, rfl⟩
      case measure => simp [intOf]; omega
    · go_wp2
      go_ret
      exact ⟨rfl, _, rfl⟩
end Go.Proofs.Ytgkflgfjbaobcaa
