/- The walks of the small functions that all chapters share: bounds, the lesser and the greater of two numbers, words. No condition. -/
import Derived.Test.YtihhlldpdfihfaaMem
namespace Go.Proofs.Ytihhlldpdfihfaa
open Go.RowKit

theorem quiet_same {P : Program} {f : FuncId} {args : Array Value} {w : World} {n : Nat} {v : Value}
    (h : Calls P f args (w.drewN n) fun e w' => e = .returned v ∧ w.drewN n = w') : Calls P f args (w.drewN n) fun e w'' => e = .returned v ∧ ∃ m, w'' = w.drewN m :=
  h.mono fun _ _ ⟨he, hm⟩ => ⟨he, n, hm.symm⟩
def inB (x a b : Int) : Bool := decide (a ≤ x ∧ x ≤ b)
theorem inB_yes {x a b : Int} (h : inB x a b = true) : a ≤ x ∧ x ≤ b := of_decide_eq_true h
set_option maxRecDepth 100000 in
set_option maxHeartbeats 400000 in
theorem l1In_any (x a b : Int) (w : World) : Calls Try.prog 38 #[.int .i64 x, .int .i64 a, .int .i64 b] w fun e w' => e = .returned (.bool (inB x a b)) ∧ w = w' := by
  go_enter Try.func38, Try.ntmps38
  go_wp2
  all_goals
    go_ret
    exact ⟨ret_bool (by simp [inB, *] <;> omega), rfl⟩
set_option maxRecDepth 100000 in
set_option maxHeartbeats 400000 in
theorem isBetween_any (x a b : Int) (w : World) : Calls Try.prog 35 #[.int .i64 x, .int .i64 a, .int .i64 b] w fun e w' => e = .returned (.bool (inB x a b)) ∧ w = w' := by
  go_enter Try.func35, Try.ntmps35
  go_wp2
  all_goals
    go_ret
    exact ⟨ret_bool (by simp [inB, *] <;> omega), rfl⟩
theorem not_false {b : Bool} (h : ¬ b = true) : b = false := by simpa using h
/-- What a function leaves that tells yes or no and writes into new memory alone. -/
def Tells (w : World) (b : Bool) (e : Ending) (w' : World) : Prop := e = .returned (.bool b) ∧ Below w.heap.size w w'
def leastI (a b : Int) : Int := if a < b then a else b
def mostI (a b : Int) : Int := if a > b then a else b
set_option maxRecDepth 100000 in
set_option maxHeartbeats 400000 in
theorem l1Least_any (a b : Int) (w : World) : Calls Try.prog 55 #[.int .i64 a, .int .i64 b] w fun e w' => e = .returned (.int .i64 (leastI a b)) ∧ w = w' := by
  go_enter Try.func55, Try.ntmps55
  go_wp2
  all_goals
    go_ret
    exact ⟨ret_int (by unfold leastI; split <;> omega), rfl⟩
set_option maxRecDepth 100000 in
set_option maxHeartbeats 400000 in
theorem l1Most_any (a b : Int) (w : World) : Calls Try.prog 54 #[.int .i64 a, .int .i64 b] w fun e w' => e = .returned (.int .i64 (mostI a b)) ∧ w = w' := by
  go_enter Try.func54, Try.ntmps54
  go_wp2
  all_goals
    go_ret
    exact ⟨ret_int (by unfold mostI; split <;> omega), rfl⟩

/-- Small letters. -/
def isLow (c : UInt8) : Bool := decide (97 ≤ (c.toNat : Int) ∧ (c.toNat : Int) ≤ 122)
def wordB (s : ByteArray) : Bool := decide (1 ≤ s.size ∧ s.size ≤ 10) && s.data.toList.all isLow
theorem low_step {s : ByteArray} {k : Nat} (h : (s.data.toList.take k).all isLow = true) (hk : k < s.size) (h1 : 97 ≤ (s[k].toNat : Int)) (h2 : (s[k].toNat : Int) ≤ 122) : (s.data.toList.take (k + 1)).all isLow = true := by
  rw [List.take_succ_eq_append_getElem (by simpa using hk), List.all_append, h]
  simp only [List.all_cons, List.all_nil, Bool.and_true, Bool.true_and]
  exact decide_eq_true ⟨h1, h2⟩
theorem low_bad {s : ByteArray} {k : Nat} (hk : k < s.size) (h : (s[k].toNat : Int) < 97 ∨ 122 < (s[k].toNat : Int)) : wordB s = false := by
  have : s.data.toList.all isLow = false := by
    rw [List.all_eq_false]
    refine ⟨s[k], ?_, ?_⟩
    · rw [Array.mem_toList_iff]; exact Array.getElem_mem _
    · unfold isLow; rw [decide_eq_true_eq]; omega
  simp [wordB, this]
theorem low_end {s : ByteArray} {k : Nat} (h : (s.data.toList.take k).all isLow = true) (hk : s.size ≤ k) : wordB s = decide (1 ≤ s.size ∧ s.size ≤ 10) := by
  rw [List.take_of_length_le (by simpa using hk)] at h
  simp [wordB, h]
end Go.Proofs.Ytihhlldpdfihfaa
