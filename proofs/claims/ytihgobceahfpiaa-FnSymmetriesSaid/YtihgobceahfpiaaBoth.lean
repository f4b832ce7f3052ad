/- The walks of AfterBoth and UndoOf, the program's and the model's, and of what tells a symmetry. No condition. -/
import Derived.Test.YtihgobceahfpiaaBase
import Derived.Test.YtihgobceahfpiaaSymMath
namespace Go.Proofs.Ytihgobceahfpiaa
open Go.RowKit

theorem inB_sym (s : Int) : inB s 0 7 = isSymB s := rfl
set_option maxRecDepth 100000 in
set_option maxHeartbeats 400000 in
theorem isSymmetry_any (s : Int) (w : World) : Calls Try.prog 75 #[.int .i64 s] w fun e w' => e = .returned (.bool (isSymB s)) ∧ w = w' := by
  go_enter Try.func75, Try.ntmps75
  go_wp2_with (go_at_call 95; (with_reducible refine (isBetween_any _ _ _ _).mono ?_); rintro e w' ⟨rfl, rfl⟩)
  go_ret
  exact ⟨rfl, rfl⟩
set_option maxRecDepth 100000 in
set_option maxHeartbeats 400000 in
theorem l4Symmetry_any (s : Int) (w : World) : Calls Try.prog 79 #[.int .i64 s] w fun e w' => e = .returned (.bool (isSymB s)) ∧ w = w' := by
  go_enter Try.func79, Try.ntmps79
  go_wp2_with (go_at_call 92; (with_reducible refine (l1In_any _ _ _ _).mono ?_); rintro e w' ⟨rfl, rfl⟩)
  go_ret
  exact ⟨rfl, rfl⟩
set_option maxRecDepth 100000 in
set_option maxHeartbeats 400000 in
theorem isMirroring_any (s : Int) (w : World) : Calls Try.prog 76 #[.int .i64 s] w fun e w' => e = .returned (.bool (decide (4 ≤ s))) ∧ w = w' := by
  go_enter Try.func76, Try.ntmps76
  go_wp2
  all_goals
    go_ret
    exact ⟨ret_bool (by simp [*] <;> omega), rfl⟩
/-- The symmetry that undoes one. -/
def undoI (s : Int) : Int := if 4 ≤ s then s else if s = 0 then 0 else 4 - s
def undoN (s : Int) : Int := if isSymB s = true then undoI s else 0
theorem rem4 {a : Int} (h : 0 ≤ a) : Int.tmod a 4 = a % 4 := Int.tmod_eq_emod_of_nonneg h
theorem ret2_ib {a a' : Int} {b b' : Bool} (h : a = a') (h' : b = b') : Ending.returned (.tuple #[.int .i64 a, .bool b]) = .returned (.tuple #[.int .i64 a', .bool b']) := by rw [h, h']
set_option maxRecDepth 100000 in
set_option maxHeartbeats 1000000 in
theorem implUndoOf_any (s : Int) (w : World) : Calls Try.prog 25 #[.int .i64 s] w (Out w (.tuple #[.int .i64 (undoN s), .bool (isSymB s)])) := by
  by_cases h1 : isSymB s = true
  · obtain ⟨n, rfl, hn⟩ := isSymB_yes h1
    have H := Lib.hid (show undoN n = undoI n by simp [undoN, h1])
    go_enter Try.func25, Try.ntmps25
    go_wp2_with (first | (go_at_call 75; (with_reducible refine (isSymmetry_any _ _).mono ?_); rintro e w' ⟨rfl, rfl⟩) | (go_at_call 76; (with_reducible refine (isMirroring_any _ _).mono ?_); rintro e w' ⟨rfl, rfl⟩))
    all_goals
      go_ret2
      exact ⟨ret2_ib (by rw [H.out]; unfold undoI; split <;> omega) h1.symm, Below.refl _ _⟩
  · have h3 := not_false h1
    have H := Lib.hid (show undoN s = 0 by simp [undoN, h3])
    go_enter Try.func25, Try.ntmps25
    go_wp2_with (go_at_call 75; (with_reducible refine (isSymmetry_any _ _).mono ?_); rintro e w' ⟨rfl, rfl⟩)
    go_ret2
    exact ⟨ret2_ib H.out.symm h3.symm, Below.refl _ _⟩
set_option maxRecDepth 100000 in
set_option maxHeartbeats 1000000 in
theorem specUndoOf_any (s : Int) (w : World) : Calls Try.prog 35 #[.int .i64 s] w (Out w (.tuple #[.int .i64 (undoN s), .bool (isSymB s)])) := by
  by_cases h1 : isSymB s = true
  · obtain ⟨n, rfl, hn⟩ := isSymB_yes h1
    have H := Lib.hid (show undoN n = undoI n by simp [undoN, h1])
    go_enter Try.func35, Try.ntmps35
    go_wp2_with (go_at_call 79; (with_reducible refine (l4Symmetry_any _ _).mono ?_); rintro e w' ⟨rfl, rfl⟩)
    all_goals
      go_ret2
      exact ⟨ret2_ib (by rw [H.out]; unfold undoI; split <;> omega) h1.symm, Below.refl _ _⟩
  · have h3 := not_false h1
    have H := Lib.hid (show undoN s = 0 by simp [undoN, h3])
    go_enter Try.func35, Try.ntmps35
    go_wp2_with (go_at_call 79; (with_reducible refine (l4Symmetry_any _ _).mono ?_); rintro e w' ⟨rfl, rfl⟩)
    go_ret2
    exact ⟨ret2_ib H.out.symm h3.symm, Below.refl _ _⟩
/-- The symmetry that is the same as two after each other. -/
def turnsI (a b : Int) : Int := if 4 ≤ b then 8 - a + b else a + b
def bothI (a b : Int) : Int := turnsI a b % 4 + (if decide (4 ≤ a) = decide (4 ≤ b) then 0 else 4)
def bothB (a b : Int) : Bool := isSymB a && isSymB b
def bothN (a b : Int) : Int := if bothB a b = true then bothI a b else 0
set_option maxRecDepth 100000 in
set_option maxHeartbeats 2000000 in
theorem implAfterBoth_any (a b : Int) (w : World) : Calls Try.prog 27 #[.int .i64 a, .int .i64 b] w (Out w (.tuple #[.int .i64 (bothN a b), .bool (bothB a b)])) := by
  by_cases h1 : isSymB a = true
  · by_cases h2 : isSymB b = true
    · have H := Lib.hid (show bothN a b = bothI a b ∧ bothB a b = true by simp [bothN, bothB, h1, h2])
      obtain ⟨n, rfl, hn⟩ := isSymB_yes h1
      obtain ⟨m, rfl, hm⟩ := isSymB_yes h2
      go_enter Try.func27, Try.ntmps27
      go_wp2_with (first | (go_at_call 75; (with_reducible refine (isSymmetry_any _ _).mono ?_); rintro e w' ⟨rfl, rfl⟩) | (go_at_call 76; (with_reducible refine (isMirroring_any _ _).mono ?_); rintro e w' ⟨rfl, rfl⟩))
      all_goals
        go_ret2
        exact ⟨ret2_ib (by rw [H.out.1]; unfold bothI turnsI; simp_all <;> omega) H.out.2.symm, Below.refl _ _⟩
    · have h3 := not_false h2
      have H := Lib.hid (show bothN a b = 0 ∧ bothB a b = false by simp [bothN, bothB, h3])
      go_enter Try.func27, Try.ntmps27
      go_wp2_with (go_at_call 75; (with_reducible refine (isSymmetry_any _ _).mono ?_); rintro e w' ⟨rfl, rfl⟩)
      go_ret2
      exact ⟨ret2_ib H.out.1.symm H.out.2.symm, Below.refl _ _⟩
  · have h3 := not_false h1
    have H := Lib.hid (show bothN a b = 0 ∧ bothB a b = false by simp [bothN, bothB, h3])
    go_enter Try.func27, Try.ntmps27
    go_wp2_with (go_at_call 75; (with_reducible refine (isSymmetry_any _ _).mono ?_); rintro e w' ⟨rfl, rfl⟩)
    go_ret2
    exact ⟨ret2_ib H.out.1.symm H.out.2.symm, Below.refl _ _⟩
set_option maxRecDepth 100000 in
set_option maxHeartbeats 2000000 in
theorem l4Both_any (n m : Nat) (w : World) (hn : n ≤ 7) (hm : m ≤ 7) : Calls Try.prog 80 #[.int .i64 n, .int .i64 m] w fun e w' => e = .returned (.int .i64 (bothI n m)) ∧ w = w' := by
  have e1 := rem4 (show (0 : Int) ≤ n by omega)
  have e2 := rem4 (show (0 : Int) ≤ m by omega)
  go_enter Try.func80, Try.ntmps80
  go_wp2
  all_goals
    go_ret
    exact ⟨ret_int (by unfold bothI turnsI; simp_all <;> omega), rfl⟩
set_option maxRecDepth 100000 in
set_option maxHeartbeats 2000000 in
theorem specAfterBoth_any (a b : Int) (w : World) : Calls Try.prog 32 #[.int .i64 a, .int .i64 b] w (Out w (.tuple #[.int .i64 (bothN a b), .bool (bothB a b)])) := by
  by_cases h1 : isSymB a = true
  · by_cases h2 : isSymB b = true
    · have H := Lib.hid (show bothN a b = bothI a b ∧ bothB a b = true by simp [bothN, bothB, h1, h2])
      obtain ⟨n, rfl, hn⟩ := isSymB_yes h1
      obtain ⟨m, rfl, hm⟩ := isSymB_yes h2
      go_enter Try.func32, Try.ntmps32
      go_wp2_with (first | (go_at_call 79; (with_reducible refine (l4Symmetry_any _ _).mono ?_); rintro e w' ⟨rfl, rfl⟩) | (go_at_call 80; (with_reducible refine (l4Both_any _ _ _ hn hm).mono ?_); rintro e w' ⟨rfl, rfl⟩))
      go_ret2
      exact ⟨ret2_ib H.out.1.symm H.out.2.symm, Below.refl _ _⟩
    · have h3 := not_false h2
      have H := Lib.hid (show bothN a b = 0 ∧ bothB a b = false by simp [bothN, bothB, h3])
      go_enter Try.func32, Try.ntmps32
      go_wp2_with (go_at_call 79; (with_reducible refine (l4Symmetry_any _ _).mono ?_); rintro e w' ⟨rfl, rfl⟩)
      go_ret2
      exact ⟨ret2_ib H.out.1.symm H.out.2.symm, Below.refl _ _⟩
  · have h3 := not_false h1
    have H := Lib.hid (show bothN a b = 0 ∧ bothB a b = false by simp [bothN, bothB, h3])
    go_enter Try.func32, Try.ntmps32
    go_wp2_with (go_at_call 79; (with_reducible refine (l4Symmetry_any _ _).mono ?_); rintro e w' ⟨rfl, rfl⟩)
    go_ret2
    exact ⟨ret2_ib H.out.1.symm H.out.2.symm, Below.refl _ _⟩
end Go.Proofs.Ytihgobceahfpiaa
