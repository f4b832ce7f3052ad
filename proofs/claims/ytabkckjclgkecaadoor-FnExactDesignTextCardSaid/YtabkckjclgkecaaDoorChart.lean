/- The walks of IsChart, the program's and the model's, and of what they call. No condition. -/
import Derived.Test.YtabkckjclgkecaaDoorChartMath
import Derived.Test.YtabkckjclgkecaaDoorHelpChart
import Derived.Test.YtabkckjclgkecaaDoorBase
namespace Go.Proofs.YtabkckjclgkecaaDoor
open Go.RowKit

set_option maxRecDepth 100000 in
set_option maxHeartbeats 400000 in
theorem isSide_any (n : Int) (w : World) : Calls Tryd.prog 27 #[.int .i64 n] w fun e w' => e = .returned (.bool (isSideB n)) ∧ w = w' := by
  go_enter Tryd.func27, Tryd.ntmps27
  go_wp2
  all_goals
    go_ret
    exact ⟨ret_bool (by simp [isSideB, *] <;> omega), rfl⟩
set_option maxRecDepth 100000 in
set_option maxHeartbeats 400000 in
theorem isColor_any (n : Int) (w : World) : Calls Tryd.prog 28 #[.int .i64 n] w fun e w' => e = .returned (.bool (isColorB n)) ∧ w = w' := by
  go_enter Tryd.func28, Tryd.ntmps28
  go_wp2
  all_goals
    go_ret
    exact ⟨ret_bool (by simp [isColorB, *] <;> omega), rfl⟩
theorem inB_side (n : Int) : inB n 1 8 = isSideB n := rfl
theorem inB_color (n : Int) : inB n 0 5 = isColorB n := by unfold inB isColorB; rw [Bool.eq_iff_iff]; simp; omega
set_option maxRecDepth 100000 in
set_option maxHeartbeats 400000 in
theorem l2Side_any (n : Int) (w : World) : Calls Tryd.prog 24 #[.int .i64 n] w fun e w' => e = .returned (.bool (isSideB n)) ∧ w = w' := by
  go_enter Tryd.func24, Tryd.ntmps24
  go_wp2_with (go_at_call 26; refine (l1In_any _ _ _ _).mono ?_; rintro e w' ⟨rfl, rfl⟩)
  go_ret
  exact ⟨rfl, rfl⟩
set_option maxRecDepth 100000 in
set_option maxHeartbeats 400000 in
theorem l2Color_any (n : Int) (w : World) : Calls Tryd.prog 25 #[.int .i64 n] w fun e w' => e = .returned (.bool (isColorB n)) ∧ w = w' := by
  go_enter Tryd.func25, Tryd.ntmps25
  go_wp2_with (go_at_call 26; refine (l1In_any _ _ _ _).mono ?_; rintro e w' ⟨rfl, rfl⟩)
  go_ret
  exact ⟨ret_bool (inB_color n), rfl⟩

theorem good_len {W H : Int} {xs : List Int} (h : (xs.length : Int) ≠ W * H) : goodB W H xs = false := by simp [goodB, h]
theorem good_W {W H : Int} {xs : List Int} (h : ¬ isSideB W = true) : goodB W H xs = false := by simp [goodB, h]
theorem good_H {W H : Int} {xs : List Int} (h : ¬ isSideB H = true) : goodB W H xs = false := by simp [goodB, h]
theorem good_bad {W H : Int} {xs : List Int} (h : xs.all isColorB = false) : goodB W H xs = false := by simp [goodB, h]
theorem good_ok {W H : Int} {xs : List Int} (h1 : isSideB W = true) (h2 : isSideB H = true) (h3 : (xs.length : Int) = W * H) (h4 : xs.all isColorB = true) : goodB W H xs = true := by simp only [goodB, h1, h2, h3, h4]; simp

theorem good_all {W H : Int} {xs : List Int} (h1 : isSideB W = true) (h2 : isSideB H = true) (h3 : (xs.length : Int) = W * H) : goodB W H xs = xs.all isColorB := by simp only [goodB, h1, h2, h3]; simp
end Go.Proofs.YtabkckjclgkecaaDoor
