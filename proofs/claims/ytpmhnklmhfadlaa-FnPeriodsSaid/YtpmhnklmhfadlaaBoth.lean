/- The walks of AfterBoth and UndoOf, the program's and the model's, and of what tells a symmetry. No condition. -/
import Derived.Test.YtpmhnklmhfadlaaBase
import Derived.Test.YtpmhnklmhfadlaaMgMath
namespace Go.Proofs.Ytpmhnklmhfadlaa
open Go.RowKit

theorem inB_sym (s : Int) : inB s 0 7 = isSymB s := rfl
set_option maxRecDepth 100000 in
set_option maxHeartbeats 400000 in
theorem isMirroring_any (s : Int) (w : World) : Calls Try.prog 96 #[.int .i64 s] w fun e w' => e = .returned (.bool (decide (4 ≤ s))) ∧ w = w' := by
  go_enter Try.func96, Try.ntmps96
  go_wp2
  all_goals
    go_ret
    exact ⟨ret_bool (by simp [*] <;> omega), rfl⟩
/-- The symmetry that undoes one. -/
def undoI (s : Int) : Int := if 4 ≤ s then s else if s = 0 then 0 else 4 - s
def undoN (s : Int) : Int := if isSymB s = true then undoI s else 0
theorem rem4 {a : Int} (h : 0 ≤ a) : Int.tmod a 4 = a % 4 := Int.tmod_eq_emod_of_nonneg h
theorem ret2_ib {a a' : Int} {b b' : Bool} (h : a = a') (h' : b = b') : Ending.returned (.tuple #[.int .i64 a, .bool b]) = .returned (.tuple #[.int .i64 a', .bool b']) := by rw [h, h']
/-- The symmetry that is the same as two after each other. -/
def turnsI (a b : Int) : Int := if 4 ≤ b then 8 - a + b else a + b
def bothI (a b : Int) : Int := turnsI a b % 4 + (if decide (4 ≤ a) = decide (4 ≤ b) then 0 else 4)
def bothB (a b : Int) : Bool := isSymB a && isSymB b
def bothN (a b : Int) : Int := if bothB a b = true then bothI a b else 0
end Go.Proofs.Ytpmhnklmhfadlaa
