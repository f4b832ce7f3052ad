/- The walks over one design and over a program: valid or not, both texts. No condition. -/
import Derived.Test.YtabkckjclgkecaaDoorDesignMath
import Derived.Test.YtabkckjclgkecaaDoorChart
import Derived.IntWalk
import Derived.Laws.StructEq
namespace Go.Proofs.YtabkckjclgkecaaDoor
open Go.RowKit

set_option maxRecDepth 100000 in
set_option maxHeartbeats 4000000 in
theorem isDesign_any (s : DesignR) (w : World) :
    Calls Tryd.prog 18 #[.agg #[.int .i64 s.f0, .int .i64 s.f1, .int .i64 s.f2, .int .i64 s.f3]] w (Tells w (designB s)) := by
  obtain ⟨k, a, b, c⟩ := s
  simp only
  by_cases k1 : k = 1
  · subst k1
    by_cases h0 : isSideB a = true
    rotate_left
    · have H := Lib.hid (show designB ⟨1, a, b, c⟩ = false by simp [designB, h0])
      have h0' := not_false h0
      go_enter Tryd.func18, Tryd.ntmps18
      go_wp2_with (first | (go_at_call 27; (with_reducible refine (isSide_any _ _).mono ?_); rintro e w' ⟨rfl, rfl⟩) | (go_at_call 28; (with_reducible refine (isColor_any _ _).mono ?_); rintro e w' ⟨rfl, rfl⟩) | (go_at_call 29; (with_reducible refine (isBetween_any _ _ _ _).mono ?_); rintro e w' ⟨rfl, rfl⟩))
      all_goals
        go_ret
        exact ⟨ret_bool H.out.symm, (Below.refl _ _).alloc (Nat.le_refl _) _⟩
    by_cases h1 : isSideB b = true
    rotate_left
    · have H := Lib.hid (show designB ⟨1, a, b, c⟩ = false by simp [designB, h0, h1])
      have h1' := not_false h1
      go_enter Tryd.func18, Tryd.ntmps18
      go_wp2_with (first | (go_at_call 27; (with_reducible refine (isSide_any _ _).mono ?_); rintro e w' ⟨rfl, rfl⟩) | (go_at_call 28; (with_reducible refine (isColor_any _ _).mono ?_); rintro e w' ⟨rfl, rfl⟩) | (go_at_call 29; (with_reducible refine (isBetween_any _ _ _ _).mono ?_); rintro e w' ⟨rfl, rfl⟩))
      all_goals
        go_ret
        exact ⟨ret_bool H.out.symm, (Below.refl _ _).alloc (Nat.le_refl _) _⟩
    by_cases h2 : isColorB c = true
    rotate_left
    · have H := Lib.hid (show designB ⟨1, a, b, c⟩ = false by simp [designB, h0, h1, h2])
      have h2' := not_false h2
      go_enter Tryd.func18, Tryd.ntmps18
      go_wp2_with (first | (go_at_call 27; (with_reducible refine (isSide_any _ _).mono ?_); rintro e w' ⟨rfl, rfl⟩) | (go_at_call 28; (with_reducible refine (isColor_any _ _).mono ?_); rintro e w' ⟨rfl, rfl⟩) | (go_at_call 29; (with_reducible refine (isBetween_any _ _ _ _).mono ?_); rintro e w' ⟨rfl, rfl⟩))
      all_goals
        go_ret
        exact ⟨ret_bool H.out.symm, (Below.refl _ _).alloc (Nat.le_refl _) _⟩
    have H := Lib.hid (show designB ⟨1, a, b, c⟩ = true by simp [designB, h0, h1, h2])
    go_enter Tryd.func18, Tryd.ntmps18
    go_wp2_with (first | (go_at_call 27; (with_reducible refine (isSide_any _ _).mono ?_); rintro e w' ⟨rfl, rfl⟩) | (go_at_call 28; (with_reducible refine (isColor_any _ _).mono ?_); rintro e w' ⟨rfl, rfl⟩) | (go_at_call 29; (with_reducible refine (isBetween_any _ _ _ _).mono ?_); rintro e w' ⟨rfl, rfl⟩))
    all_goals
      go_ret
      exact ⟨ret_bool H.out.symm, (Below.refl _ _).alloc (Nat.le_refl _) _⟩
  by_cases k6 : k = 6
  · subst k6
    by_cases h0 : isColorB a = true
    rotate_left
    · have H := Lib.hid (show designB ⟨6, a, b, c⟩ = false by simp [designB, h0])
      have h0' := not_false h0
      go_enter Tryd.func18, Tryd.ntmps18
      go_wp2_with (first | (go_at_call 27; (with_reducible refine (isSide_any _ _).mono ?_); rintro e w' ⟨rfl, rfl⟩) | (go_at_call 28; (with_reducible refine (isColor_any _ _).mono ?_); rintro e w' ⟨rfl, rfl⟩) | (go_at_call 29; (with_reducible refine (isBetween_any _ _ _ _).mono ?_); rintro e w' ⟨rfl, rfl⟩))
      all_goals
        go_ret
        exact ⟨ret_bool H.out.symm, (Below.refl _ _).alloc (Nat.le_refl _) _⟩
    by_cases h1 : b = 0
    rotate_left
    · have H := Lib.hid (show designB ⟨6, a, b, c⟩ = false by simp [designB, h0, h1])
      have h1' : (b == 0) = false := by simpa using h1
      go_enter Tryd.func18, Tryd.ntmps18
      go_wp2_with (first | (go_at_call 27; (with_reducible refine (isSide_any _ _).mono ?_); rintro e w' ⟨rfl, rfl⟩) | (go_at_call 28; (with_reducible refine (isColor_any _ _).mono ?_); rintro e w' ⟨rfl, rfl⟩) | (go_at_call 29; (with_reducible refine (isBetween_any _ _ _ _).mono ?_); rintro e w' ⟨rfl, rfl⟩))
      all_goals
        go_ret
        exact ⟨ret_bool H.out.symm, (Below.refl _ _).alloc (Nat.le_refl _) _⟩
    by_cases h2 : c = 0
    rotate_left
    · have H := Lib.hid (show designB ⟨6, a, b, c⟩ = false by simp [designB, h0, h1, h2])
      have h2' : (c == 0) = false := by simpa using h2
      go_enter Tryd.func18, Tryd.ntmps18
      go_wp2_with (first | (go_at_call 27; (with_reducible refine (isSide_any _ _).mono ?_); rintro e w' ⟨rfl, rfl⟩) | (go_at_call 28; (with_reducible refine (isColor_any _ _).mono ?_); rintro e w' ⟨rfl, rfl⟩) | (go_at_call 29; (with_reducible refine (isBetween_any _ _ _ _).mono ?_); rintro e w' ⟨rfl, rfl⟩))
      all_goals
        go_ret
        exact ⟨ret_bool H.out.symm, (Below.refl _ _).alloc (Nat.le_refl _) _⟩
    subst h1
    subst h2
    have H := Lib.hid (show designB ⟨6, a, 0, 0⟩ = true by simp [designB, h0])
    go_enter Tryd.func18, Tryd.ntmps18
    go_wp2_with (first | (go_at_call 27; (with_reducible refine (isSide_any _ _).mono ?_); rintro e w' ⟨rfl, rfl⟩) | (go_at_call 28; (with_reducible refine (isColor_any _ _).mono ?_); rintro e w' ⟨rfl, rfl⟩) | (go_at_call 29; (with_reducible refine (isBetween_any _ _ _ _).mono ?_); rintro e w' ⟨rfl, rfl⟩))
    all_goals
      go_ret
      exact ⟨ret_bool H.out.symm, (Below.refl _ _).alloc (Nat.le_refl _) _⟩
  by_cases k9 : k = 9
  · subst k9
    by_cases h0 : isSideB a = true
    rotate_left
    · have H := Lib.hid (show designB ⟨9, a, b, c⟩ = false by simp [designB, h0])
      have h0' := not_false h0
      go_enter Tryd.func18, Tryd.ntmps18
      go_wp2_with (first | (go_at_call 27; (with_reducible refine (isSide_any _ _).mono ?_); rintro e w' ⟨rfl, rfl⟩) | (go_at_call 28; (with_reducible refine (isColor_any _ _).mono ?_); rintro e w' ⟨rfl, rfl⟩) | (go_at_call 29; (with_reducible refine (isBetween_any _ _ _ _).mono ?_); rintro e w' ⟨rfl, rfl⟩))
      all_goals
        go_ret
        exact ⟨ret_bool H.out.symm, (Below.refl _ _).alloc (Nat.le_refl _) _⟩
    by_cases h1 : isSideB b = true
    rotate_left
    · have H := Lib.hid (show designB ⟨9, a, b, c⟩ = false by simp [designB, h0, h1])
      have h1' := not_false h1
      go_enter Tryd.func18, Tryd.ntmps18
      go_wp2_with (first | (go_at_call 27; (with_reducible refine (isSide_any _ _).mono ?_); rintro e w' ⟨rfl, rfl⟩) | (go_at_call 28; (with_reducible refine (isColor_any _ _).mono ?_); rintro e w' ⟨rfl, rfl⟩) | (go_at_call 29; (with_reducible refine (isBetween_any _ _ _ _).mono ?_); rintro e w' ⟨rfl, rfl⟩))
      all_goals
        go_ret
        exact ⟨ret_bool H.out.symm, (Below.refl _ _).alloc (Nat.le_refl _) _⟩
    by_cases h2 : c = 0
    rotate_left
    · have H := Lib.hid (show designB ⟨9, a, b, c⟩ = false by simp [designB, h0, h1, h2])
      have h2' : (c == 0) = false := by simpa using h2
      go_enter Tryd.func18, Tryd.ntmps18
      go_wp2_with (first | (go_at_call 27; (with_reducible refine (isSide_any _ _).mono ?_); rintro e w' ⟨rfl, rfl⟩) | (go_at_call 28; (with_reducible refine (isColor_any _ _).mono ?_); rintro e w' ⟨rfl, rfl⟩) | (go_at_call 29; (with_reducible refine (isBetween_any _ _ _ _).mono ?_); rintro e w' ⟨rfl, rfl⟩))
      all_goals
        go_ret
        exact ⟨ret_bool H.out.symm, (Below.refl _ _).alloc (Nat.le_refl _) _⟩
    subst h2
    have H := Lib.hid (show designB ⟨9, a, b, 0⟩ = true by simp [designB, h0, h1])
    go_enter Tryd.func18, Tryd.ntmps18
    go_wp2_with (first | (go_at_call 27; (with_reducible refine (isSide_any _ _).mono ?_); rintro e w' ⟨rfl, rfl⟩) | (go_at_call 28; (with_reducible refine (isColor_any _ _).mono ?_); rintro e w' ⟨rfl, rfl⟩) | (go_at_call 29; (with_reducible refine (isBetween_any _ _ _ _).mono ?_); rintro e w' ⟨rfl, rfl⟩))
    all_goals
      go_ret
      exact ⟨ret_bool H.out.symm, (Below.refl _ _).alloc (Nat.le_refl _) _⟩
  have k1' : (k == 1) = false := by simpa using k1
  have k6' : (k == 6) = false := by simpa using k6
  have k9' : (k == 9) = false := by simpa using k9
  by_cases h0 : inB k 1 9 = true
  rotate_left
  · have H := Lib.hid (show designB ⟨k, a, b, c⟩ = false by simp [designB, k1, k6, k9, h0])
    have h0' := not_false h0
    go_enter Tryd.func18, Tryd.ntmps18
    go_wp2_with (first | (go_at_call 27; (with_reducible refine (isSide_any _ _).mono ?_); rintro e w' ⟨rfl, rfl⟩) | (go_at_call 28; (with_reducible refine (isColor_any _ _).mono ?_); rintro e w' ⟨rfl, rfl⟩) | (go_at_call 29; (with_reducible refine (isBetween_any _ _ _ _).mono ?_); rintro e w' ⟨rfl, rfl⟩))
    all_goals
      go_ret
      exact ⟨ret_bool H.out.symm, (Below.refl _ _).alloc (Nat.le_refl _) _⟩
  by_cases q0 : a = 0
  rotate_left
  · have H := Lib.hid (show designB ⟨k, a, b, c⟩ = false by simp [designB, k1, k6, k9, h0, q0])
    have q0' : (a == 0) = false := by simpa using q0
    go_enter Tryd.func18, Tryd.ntmps18
    go_wp2_with (first | (go_at_call 27; (with_reducible refine (isSide_any _ _).mono ?_); rintro e w' ⟨rfl, rfl⟩) | (go_at_call 28; (with_reducible refine (isColor_any _ _).mono ?_); rintro e w' ⟨rfl, rfl⟩) | (go_at_call 29; (with_reducible refine (isBetween_any _ _ _ _).mono ?_); rintro e w' ⟨rfl, rfl⟩))
    all_goals
      go_ret
      exact ⟨ret_bool H.out.symm, (Below.refl _ _).alloc (Nat.le_refl _) _⟩
  subst q0
  by_cases q1 : b = 0
  rotate_left
  · have H := Lib.hid (show designB ⟨k, 0, b, c⟩ = false by simp [designB, k1, k6, k9, h0, q1])
    have q1' : (b == 0) = false := by simpa using q1
    go_enter Tryd.func18, Tryd.ntmps18
    go_wp2_with (first | (go_at_call 27; (with_reducible refine (isSide_any _ _).mono ?_); rintro e w' ⟨rfl, rfl⟩) | (go_at_call 28; (with_reducible refine (isColor_any _ _).mono ?_); rintro e w' ⟨rfl, rfl⟩) | (go_at_call 29; (with_reducible refine (isBetween_any _ _ _ _).mono ?_); rintro e w' ⟨rfl, rfl⟩))
    all_goals
      go_ret
      exact ⟨ret_bool H.out.symm, (Below.refl _ _).alloc (Nat.le_refl _) _⟩
  subst q1
  by_cases q2 : c = 0
  rotate_left
  · have H := Lib.hid (show designB ⟨k, 0, 0, c⟩ = false by simp [designB, k1, k6, k9, h0, q2])
    have q2' : (c == 0) = false := by simpa using q2
    go_enter Tryd.func18, Tryd.ntmps18
    go_wp2_with (first | (go_at_call 27; (with_reducible refine (isSide_any _ _).mono ?_); rintro e w' ⟨rfl, rfl⟩) | (go_at_call 28; (with_reducible refine (isColor_any _ _).mono ?_); rintro e w' ⟨rfl, rfl⟩) | (go_at_call 29; (with_reducible refine (isBetween_any _ _ _ _).mono ?_); rintro e w' ⟨rfl, rfl⟩))
    all_goals
      go_ret
      exact ⟨ret_bool H.out.symm, (Below.refl _ _).alloc (Nat.le_refl _) _⟩
  subst q2
  have H := Lib.hid (show designB ⟨k, 0, 0, 0⟩ = true by simp [designB, k1, k6, k9, h0])
  go_enter Tryd.func18, Tryd.ntmps18
  go_wp2_with (first | (go_at_call 27; (with_reducible refine (isSide_any _ _).mono ?_); rintro e w' ⟨rfl, rfl⟩) | (go_at_call 28; (with_reducible refine (isColor_any _ _).mono ?_); rintro e w' ⟨rfl, rfl⟩) | (go_at_call 29; (with_reducible refine (isBetween_any _ _ _ _).mono ?_); rintro e w' ⟨rfl, rfl⟩))
  all_goals
    go_ret
    exact ⟨ret_bool H.out.symm, (Below.refl _ _).alloc (Nat.le_refl _) _⟩
set_option maxRecDepth 100000 in
set_option maxHeartbeats 4000000 in
theorem l9One_any (s : DesignR) (w : World) :
    Calls Tryd.prog 16 #[.agg #[.int .i64 s.f0, .int .i64 s.f1, .int .i64 s.f2, .int .i64 s.f3]] w (Tells w (designB s)) := by
  obtain ⟨k, a, b, c⟩ := s
  simp only
  by_cases k1 : k = 1
  · subst k1
    by_cases h0 : isSideB a = true
    rotate_left
    · have H := Lib.hid (show designB ⟨1, a, b, c⟩ = false by simp [designB, h0])
      have h0' := not_false h0
      go_enter Tryd.func16, Tryd.ntmps16
      go_wp2_with (first | (go_at_call 24; (with_reducible refine (l2Side_any _ _).mono ?_); rintro e w' ⟨rfl, rfl⟩) | (go_at_call 25; (with_reducible refine (l2Color_any _ _).mono ?_); rintro e w' ⟨rfl, rfl⟩) | (go_at_call 26; (with_reducible refine (l1In_any _ _ _ _).mono ?_); rintro e w' ⟨rfl, rfl⟩))
      all_goals
        go_ret
        exact ⟨ret_bool H.out.symm, (Below.refl _ _).alloc (Nat.le_refl _) _⟩
    by_cases h1 : isSideB b = true
    rotate_left
    · have H := Lib.hid (show designB ⟨1, a, b, c⟩ = false by simp [designB, h0, h1])
      have h1' := not_false h1
      go_enter Tryd.func16, Tryd.ntmps16
      go_wp2_with (first | (go_at_call 24; (with_reducible refine (l2Side_any _ _).mono ?_); rintro e w' ⟨rfl, rfl⟩) | (go_at_call 25; (with_reducible refine (l2Color_any _ _).mono ?_); rintro e w' ⟨rfl, rfl⟩) | (go_at_call 26; (with_reducible refine (l1In_any _ _ _ _).mono ?_); rintro e w' ⟨rfl, rfl⟩))
      all_goals
        go_ret
        exact ⟨ret_bool H.out.symm, (Below.refl _ _).alloc (Nat.le_refl _) _⟩
    by_cases h2 : isColorB c = true
    rotate_left
    · have H := Lib.hid (show designB ⟨1, a, b, c⟩ = false by simp [designB, h0, h1, h2])
      have h2' := not_false h2
      go_enter Tryd.func16, Tryd.ntmps16
      go_wp2_with (first | (go_at_call 24; (with_reducible refine (l2Side_any _ _).mono ?_); rintro e w' ⟨rfl, rfl⟩) | (go_at_call 25; (with_reducible refine (l2Color_any _ _).mono ?_); rintro e w' ⟨rfl, rfl⟩) | (go_at_call 26; (with_reducible refine (l1In_any _ _ _ _).mono ?_); rintro e w' ⟨rfl, rfl⟩))
      all_goals
        go_ret
        exact ⟨ret_bool H.out.symm, (Below.refl _ _).alloc (Nat.le_refl _) _⟩
    have H := Lib.hid (show designB ⟨1, a, b, c⟩ = true by simp [designB, h0, h1, h2])
    go_enter Tryd.func16, Tryd.ntmps16
    go_wp2_with (first | (go_at_call 24; (with_reducible refine (l2Side_any _ _).mono ?_); rintro e w' ⟨rfl, rfl⟩) | (go_at_call 25; (with_reducible refine (l2Color_any _ _).mono ?_); rintro e w' ⟨rfl, rfl⟩) | (go_at_call 26; (with_reducible refine (l1In_any _ _ _ _).mono ?_); rintro e w' ⟨rfl, rfl⟩))
    all_goals
      go_ret
      exact ⟨ret_bool H.out.symm, (Below.refl _ _).alloc (Nat.le_refl _) _⟩
  by_cases k6 : k = 6
  · subst k6
    by_cases h0 : isColorB a = true
    rotate_left
    · have H := Lib.hid (show designB ⟨6, a, b, c⟩ = false by simp [designB, h0])
      have h0' := not_false h0
      go_enter Tryd.func16, Tryd.ntmps16
      go_wp2_with (first | (go_at_call 24; (with_reducible refine (l2Side_any _ _).mono ?_); rintro e w' ⟨rfl, rfl⟩) | (go_at_call 25; (with_reducible refine (l2Color_any _ _).mono ?_); rintro e w' ⟨rfl, rfl⟩) | (go_at_call 26; (with_reducible refine (l1In_any _ _ _ _).mono ?_); rintro e w' ⟨rfl, rfl⟩))
      all_goals
        go_ret
        exact ⟨ret_bool H.out.symm, (Below.refl _ _).alloc (Nat.le_refl _) _⟩
    by_cases h1 : b = 0
    rotate_left
    · have H := Lib.hid (show designB ⟨6, a, b, c⟩ = false by simp [designB, h0, h1])
      have h1' : (b == 0) = false := by simpa using h1
      go_enter Tryd.func16, Tryd.ntmps16
      go_wp2_with (first | (go_at_call 24; (with_reducible refine (l2Side_any _ _).mono ?_); rintro e w' ⟨rfl, rfl⟩) | (go_at_call 25; (with_reducible refine (l2Color_any _ _).mono ?_); rintro e w' ⟨rfl, rfl⟩) | (go_at_call 26; (with_reducible refine (l1In_any _ _ _ _).mono ?_); rintro e w' ⟨rfl, rfl⟩))
      all_goals
        go_ret
        exact ⟨ret_bool H.out.symm, (Below.refl _ _).alloc (Nat.le_refl _) _⟩
    by_cases h2 : c = 0
    rotate_left
    · have H := Lib.hid (show designB ⟨6, a, b, c⟩ = false by simp [designB, h0, h1, h2])
      have h2' : (c == 0) = false := by simpa using h2
      go_enter Tryd.func16, Tryd.ntmps16
      go_wp2_with (first | (go_at_call 24; (with_reducible refine (l2Side_any _ _).mono ?_); rintro e w' ⟨rfl, rfl⟩) | (go_at_call 25; (with_reducible refine (l2Color_any _ _).mono ?_); rintro e w' ⟨rfl, rfl⟩) | (go_at_call 26; (with_reducible refine (l1In_any _ _ _ _).mono ?_); rintro e w' ⟨rfl, rfl⟩))
      all_goals
        go_ret
        exact ⟨ret_bool H.out.symm, (Below.refl _ _).alloc (Nat.le_refl _) _⟩
    subst h1
    subst h2
    have H := Lib.hid (show designB ⟨6, a, 0, 0⟩ = true by simp [designB, h0])
    go_enter Tryd.func16, Tryd.ntmps16
    go_wp2_with (first | (go_at_call 24; (with_reducible refine (l2Side_any _ _).mono ?_); rintro e w' ⟨rfl, rfl⟩) | (go_at_call 25; (with_reducible refine (l2Color_any _ _).mono ?_); rintro e w' ⟨rfl, rfl⟩) | (go_at_call 26; (with_reducible refine (l1In_any _ _ _ _).mono ?_); rintro e w' ⟨rfl, rfl⟩))
    all_goals
      go_ret
      exact ⟨ret_bool H.out.symm, (Below.refl _ _).alloc (Nat.le_refl _) _⟩
  by_cases k9 : k = 9
  · subst k9
    by_cases h0 : isSideB a = true
    rotate_left
    · have H := Lib.hid (show designB ⟨9, a, b, c⟩ = false by simp [designB, h0])
      have h0' := not_false h0
      go_enter Tryd.func16, Tryd.ntmps16
      go_wp2_with (first | (go_at_call 24; (with_reducible refine (l2Side_any _ _).mono ?_); rintro e w' ⟨rfl, rfl⟩) | (go_at_call 25; (with_reducible refine (l2Color_any _ _).mono ?_); rintro e w' ⟨rfl, rfl⟩) | (go_at_call 26; (with_reducible refine (l1In_any _ _ _ _).mono ?_); rintro e w' ⟨rfl, rfl⟩))
      all_goals
        go_ret
        exact ⟨ret_bool H.out.symm, (Below.refl _ _).alloc (Nat.le_refl _) _⟩
    by_cases h1 : isSideB b = true
    rotate_left
    · have H := Lib.hid (show designB ⟨9, a, b, c⟩ = false by simp [designB, h0, h1])
      have h1' := not_false h1
      go_enter Tryd.func16, Tryd.ntmps16
      go_wp2_with (first | (go_at_call 24; (with_reducible refine (l2Side_any _ _).mono ?_); rintro e w' ⟨rfl, rfl⟩) | (go_at_call 25; (with_reducible refine (l2Color_any _ _).mono ?_); rintro e w' ⟨rfl, rfl⟩) | (go_at_call 26; (with_reducible refine (l1In_any _ _ _ _).mono ?_); rintro e w' ⟨rfl, rfl⟩))
      all_goals
        go_ret
        exact ⟨ret_bool H.out.symm, (Below.refl _ _).alloc (Nat.le_refl _) _⟩
    by_cases h2 : c = 0
    rotate_left
    · have H := Lib.hid (show designB ⟨9, a, b, c⟩ = false by simp [designB, h0, h1, h2])
      have h2' : (c == 0) = false := by simpa using h2
      go_enter Tryd.func16, Tryd.ntmps16
      go_wp2_with (first | (go_at_call 24; (with_reducible refine (l2Side_any _ _).mono ?_); rintro e w' ⟨rfl, rfl⟩) | (go_at_call 25; (with_reducible refine (l2Color_any _ _).mono ?_); rintro e w' ⟨rfl, rfl⟩) | (go_at_call 26; (with_reducible refine (l1In_any _ _ _ _).mono ?_); rintro e w' ⟨rfl, rfl⟩))
      all_goals
        go_ret
        exact ⟨ret_bool H.out.symm, (Below.refl _ _).alloc (Nat.le_refl _) _⟩
    subst h2
    have H := Lib.hid (show designB ⟨9, a, b, 0⟩ = true by simp [designB, h0, h1])
    go_enter Tryd.func16, Tryd.ntmps16
    go_wp2_with (first | (go_at_call 24; (with_reducible refine (l2Side_any _ _).mono ?_); rintro e w' ⟨rfl, rfl⟩) | (go_at_call 25; (with_reducible refine (l2Color_any _ _).mono ?_); rintro e w' ⟨rfl, rfl⟩) | (go_at_call 26; (with_reducible refine (l1In_any _ _ _ _).mono ?_); rintro e w' ⟨rfl, rfl⟩))
    all_goals
      go_ret
      exact ⟨ret_bool H.out.symm, (Below.refl _ _).alloc (Nat.le_refl _) _⟩
  have k1' : (k == 1) = false := by simpa using k1
  have k6' : (k == 6) = false := by simpa using k6
  have k9' : (k == 9) = false := by simpa using k9
  by_cases h0 : inB k 1 9 = true
  rotate_left
  · have H := Lib.hid (show designB ⟨k, a, b, c⟩ = false by simp [designB, k1, k6, k9, h0])
    have h0' := not_false h0
    go_enter Tryd.func16, Tryd.ntmps16
    go_wp2_with (first | (go_at_call 24; (with_reducible refine (l2Side_any _ _).mono ?_); rintro e w' ⟨rfl, rfl⟩) | (go_at_call 25; (with_reducible refine (l2Color_any _ _).mono ?_); rintro e w' ⟨rfl, rfl⟩) | (go_at_call 26; (with_reducible refine (l1In_any _ _ _ _).mono ?_); rintro e w' ⟨rfl, rfl⟩))
    all_goals
      go_ret
      exact ⟨ret_bool H.out.symm, (Below.refl _ _).alloc (Nat.le_refl _) _⟩
  by_cases q0 : a = 0
  rotate_left
  · have H := Lib.hid (show designB ⟨k, a, b, c⟩ = false by simp [designB, k1, k6, k9, h0, q0])
    have q0' : (a == 0) = false := by simpa using q0
    go_enter Tryd.func16, Tryd.ntmps16
    go_wp2_with (first | (go_at_call 24; (with_reducible refine (l2Side_any _ _).mono ?_); rintro e w' ⟨rfl, rfl⟩) | (go_at_call 25; (with_reducible refine (l2Color_any _ _).mono ?_); rintro e w' ⟨rfl, rfl⟩) | (go_at_call 26; (with_reducible refine (l1In_any _ _ _ _).mono ?_); rintro e w' ⟨rfl, rfl⟩))
    all_goals
      go_ret
      exact ⟨ret_bool H.out.symm, (Below.refl _ _).alloc (Nat.le_refl _) _⟩
  subst q0
  by_cases q1 : b = 0
  rotate_left
  · have H := Lib.hid (show designB ⟨k, 0, b, c⟩ = false by simp [designB, k1, k6, k9, h0, q1])
    have q1' : (b == 0) = false := by simpa using q1
    go_enter Tryd.func16, Tryd.ntmps16
    go_wp2_with (first | (go_at_call 24; (with_reducible refine (l2Side_any _ _).mono ?_); rintro e w' ⟨rfl, rfl⟩) | (go_at_call 25; (with_reducible refine (l2Color_any _ _).mono ?_); rintro e w' ⟨rfl, rfl⟩) | (go_at_call 26; (with_reducible refine (l1In_any _ _ _ _).mono ?_); rintro e w' ⟨rfl, rfl⟩))
    all_goals
      go_ret
      exact ⟨ret_bool H.out.symm, (Below.refl _ _).alloc (Nat.le_refl _) _⟩
  subst q1
  by_cases q2 : c = 0
  rotate_left
  · have H := Lib.hid (show designB ⟨k, 0, 0, c⟩ = false by simp [designB, k1, k6, k9, h0, q2])
    have q2' : (c == 0) = false := by simpa using q2
    go_enter Tryd.func16, Tryd.ntmps16
    go_wp2_with (first | (go_at_call 24; (with_reducible refine (l2Side_any _ _).mono ?_); rintro e w' ⟨rfl, rfl⟩) | (go_at_call 25; (with_reducible refine (l2Color_any _ _).mono ?_); rintro e w' ⟨rfl, rfl⟩) | (go_at_call 26; (with_reducible refine (l1In_any _ _ _ _).mono ?_); rintro e w' ⟨rfl, rfl⟩))
    all_goals
      go_ret
      exact ⟨ret_bool H.out.symm, (Below.refl _ _).alloc (Nat.le_refl _) _⟩
  subst q2
  have H := Lib.hid (show designB ⟨k, 0, 0, 0⟩ = true by simp [designB, k1, k6, k9, h0])
  go_enter Tryd.func16, Tryd.ntmps16
  go_wp2_with (first | (go_at_call 24; (with_reducible refine (l2Side_any _ _).mono ?_); rintro e w' ⟨rfl, rfl⟩) | (go_at_call 25; (with_reducible refine (l2Color_any _ _).mono ?_); rintro e w' ⟨rfl, rfl⟩) | (go_at_call 26; (with_reducible refine (l1In_any _ _ _ _).mono ?_); rintro e w' ⟨rfl, rfl⟩))
  all_goals
    go_ret
    exact ⟨ret_bool H.out.symm, (Below.refl _ _).alloc (Nat.le_refl _) _⟩

set_option maxRecDepth 100000 in
set_option maxHeartbeats 4000000 in
theorem implIsProgram_any (A : Option Addr) (n c B : Nat) (xs : List DesignR) (w : World) (h : RdF designF w B A n c xs) (hB : B ≤ w.heap.size) :
    Calls Tryd.prog 12 #[.slice A n c] w (Tells w (progB xs)) := by
  have hn := h.len_lt
  have hcap := h.cap
  obtain rfl := h.len
  by_cases hl : xs.length ≤ 20
  rotate_left
  · have H := Lib.hid (progB_long hl)
    go_enter Tryd.func12, Tryd.ntmps12
    go_wp2
    go_ret
    exact ⟨ret_bool H.out.symm, Below.refl _ _⟩
  go_enter Tryd.func12, Tryd.ntmps12
  go_wp2
  go_loopw [10, 2] (fun i r wr => ∃ k : Nat, k ≤ xs.length ∧ i = .int .i64 k ∧ r = .bool false ∧ (xs.take k).all designB = true ∧ Below w.heap.size w wr) (fun i _ _ => xs.length - (intOf i).toNat)
  case atStart => exact ⟨0, Nat.zero_le _, rfl, rfl, by simp, Below.refl _ _⟩
  case round =>
    obtain ⟨k, hk, rfl, rfl, hct, hb⟩ := hrel
    have HC := Lib.hid hct
    have hzz := hb.size
    clear hct
    by_cases hlt : k < xs.length
    · obtain ⟨b, off, a, rfl, hbB, _, HX, hc0, hc1, hc2, hc3⟩ := DesignR_at (F := designF) rfl (fun _ => rfl) (fun _ => rfl) (h.all hb hB) hlt
      have x4 := Blk.new wr #[.int .i64 a.f0, .int .i64 a.f1, .int .i64 a.f2, .int .i64 a.f3] 33
      have HB := Lib.hid (hb.alloc hzz (.cells #[.int .i64 a.f0, .int .i64 a.f1, .int .i64 a.f2, .int .i64 a.f3] 33))
      have hbz : b < wr.heap.size := by omega
      clear hb
      go_wp2_with fail
      clear hc0 hc1 hc2 hc3
      generalize wr.alloc (.cells #[.int .i64 a.f0, .int .i64 a.f1, .int .i64 a.f2, .int .i64 a.f3] 33) = W4 at *
      generalize wr.heap.size = P at *
      have e0 := x4.cell 0
      have e1 := x4.cell 1
      have e2 := x4.cell 2
      have e3 := x4.cell 3
      (try go_wp2_with fail)
      refine (isDesign_any a _).mono ?_
      rintro e w5 ⟨rfl, hb5⟩
      have HB5 := Lib.hid (HB.out.trans (hb5.mono HB.out.size))
      cases hs : designB a with
      | true =>
        have H := Lib.hid (progTo_step HC.out HX.out hs)
        clear hb5
        go_wp2
        go_roundw
        case rel => exact ⟨k + 1, by omega, by go_num, rfl, H.out, HB5.out⟩
        case measure => simp [intOf]; omega
      | false =>
        have H := Lib.hid (progB_bad HX.out hs)
        clear hb5
        go_wp2
        go_ret
        exact ⟨ret_bool H.out.symm, HB5.out⟩
    · have H := Lib.hid (show progB xs = true by rw [progB_end HC.out (by omega)]; exact decide_eq_true hl)
      go_wp2
      go_ret
      exact ⟨ret_bool H.out.symm, hb⟩
set_option maxRecDepth 100000 in
set_option maxHeartbeats 4000000 in
theorem l9Good_any (A : Option Addr) (n c B : Nat) (xs : List DesignR) (w : World) (h : RdF designF w B A n c xs) (hB : B ≤ w.heap.size) :
    Calls Tryd.prog 9 #[.slice A n c] w (Tells w (progB xs)) := by
  have hn := h.len_lt
  have hcap := h.cap
  obtain rfl := h.len
  go_enter Tryd.func9, Tryd.ntmps9
  go_wp2
  go_loopw [3, 2] (fun i r wr => ∃ k : Nat, k ≤ xs.length ∧ i = .int .i64 k ∧ r = .bool false ∧ (xs.take k).all designB = true ∧ Below w.heap.size w wr) (fun i _ _ => xs.length - (intOf i).toNat)
  case atStart => exact ⟨0, Nat.zero_le _, rfl, rfl, by simp, Below.refl _ _⟩
  case round =>
    obtain ⟨k, hk, rfl, rfl, hct, hb⟩ := hrel
    have HC := Lib.hid hct
    have hzz := hb.size
    clear hct
    by_cases hlt : k < xs.length
    · obtain ⟨b, off, a, rfl, hbB, _, HX, hc0, hc1, hc2, hc3⟩ := DesignR_at (F := designF) rfl (fun _ => rfl) (fun _ => rfl) (h.all hb hB) hlt
      have hbz : b < wr.heap.size := by omega
      go_wp2_with fail
      refine (l9One_any a _).mono ?_
      rintro e w5 ⟨rfl, hb5⟩
      have HB5 := Lib.hid (hb.trans (hb5.mono hb.size))
      clear hc0 hc1 hc2 hc3
      cases hs : designB a with
      | true =>
        have H := Lib.hid (progTo_step HC.out HX.out hs)
        clear hb5 hb
        go_wp2
        go_roundw
        case rel => exact ⟨k + 1, by omega, by go_num, rfl, H.out, HB5.out⟩
        case measure => simp [intOf]; omega
      | false =>
        have H := Lib.hid (progB_bad HX.out hs)
        clear hb5 hb
        go_wp2
        go_ret
        exact ⟨ret_bool H.out.symm, HB5.out⟩
    · have H := Lib.hid (progB_end HC.out (show xs.length ≤ k by omega))
      go_wp2
      go_ret
      exact ⟨ret_bool (by rw [H.out, Bool.eq_iff_iff]; simp; omega), hb⟩
end Go.Proofs.YtabkckjclgkecaaDoor
