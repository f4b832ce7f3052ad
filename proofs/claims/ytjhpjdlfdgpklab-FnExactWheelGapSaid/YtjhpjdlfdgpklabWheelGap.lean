/- The walks of WheelGap, the program's and the model's. No condition. -/
import Derived.Test.YtjhpjdlfdgpklabShade
namespace Go.Proofs.Ytjhpjdlfdgpklab
open Go.RowKit

def wgB (a b : Int) : Bool := inB a 0 23 && inB b 0 23
def wgN (a b : Int) : Int := if wgB a b = true then gapI a b else 0
theorem ret2_gap {a a' : Int} {b b' : Bool} (h : a = a') (h' : b = b') : Ending.returned (.tuple #[.int .i64 a, .bool b]) = .returned (.tuple #[.int .i64 a', .bool b']) := by rw [h, h']
set_option maxHeartbeats 400000 in
theorem implWheelGap_any (a b : Int) (w : World) : Calls Try.prog 11 #[.int .i64 a, .int .i64 b] w (Out w (.tuple #[.int .i64 (wgN a b), .bool (wgB a b)])) := by
  by_cases h1 : inB a 0 23 = true
  · by_cases h2 : inB b 0 23 = true
    · have s1 : Step a := inB_yes h1
      have s2 : Step b := inB_yes h2
      have H := Lib.hid (show wgN a b = gapI a b ∧ wgB a b = true by simp [wgN, wgB, h1, h2])
      go_enter Try.func11, Try.ntmps11
      go_wp2_with (first | (go_at_call 39; (with_reducible refine (isStep_any _ _).mono ?_); rintro e w' ⟨rfl, rfl⟩) | (go_at_call 40; (with_reducible refine (gapOf_any _ _ _ s1 s2).mono ?_); rintro e w' ⟨rfl, rfl⟩))
      go_ret2
      exact ⟨ret2_gap H.out.1.symm H.out.2.symm, Below.refl _ _⟩
    · have h3 := not_false h2
      have H := Lib.hid (show wgN a b = 0 ∧ wgB a b = false by simp [wgN, wgB, h3])
      go_enter Try.func11, Try.ntmps11
      go_wp2_with (go_at_call 39; (with_reducible refine (isStep_any _ _).mono ?_); rintro e w' ⟨rfl, rfl⟩)
      go_ret2
      exact ⟨ret2_gap H.out.1.symm H.out.2.symm, Below.refl _ _⟩
  · have h3 := not_false h1
    have H := Lib.hid (show wgN a b = 0 ∧ wgB a b = false by simp [wgN, wgB, h3])
    go_enter Try.func11, Try.ntmps11
    go_wp2_with (go_at_call 39; (with_reducible refine (isStep_any _ _).mono ?_); rintro e w' ⟨rfl, rfl⟩)
    go_ret2
    exact ⟨ret2_gap H.out.1.symm H.out.2.symm, Below.refl _ _⟩
set_option maxHeartbeats 400000 in
theorem specWheelGap_any (a b : Int) (w : World) : Calls Try.prog 10 #[.int .i64 a, .int .i64 b] w (Out w (.tuple #[.int .i64 (wgN a b), .bool (wgB a b)])) := by
  by_cases h1 : inB a 0 23 = true
  · by_cases h2 : inB b 0 23 = true
    · have s1 : Step a := inB_yes h1
      have s2 : Step b := inB_yes h2
      have H := Lib.hid (show wgN a b = gapI a b ∧ wgB a b = true by simp [wgN, wgB, h1, h2])
      go_enter Try.func10, Try.ntmps10
      go_wp2_with (first | (go_at_call 37; (with_reducible refine (l3Step_any _ _).mono ?_); rintro e w' ⟨rfl, rfl⟩) | (go_at_call 38; (with_reducible refine (l3Gap_any _ _ _ s1 s2).mono ?_); rintro e w' ⟨rfl, rfl⟩))
      go_ret2
      exact ⟨ret2_gap H.out.1.symm H.out.2.symm, Below.refl _ _⟩
    · have h3 := not_false h2
      have H := Lib.hid (show wgN a b = 0 ∧ wgB a b = false by simp [wgN, wgB, h3])
      go_enter Try.func10, Try.ntmps10
      go_wp2_with (go_at_call 37; (with_reducible refine (l3Step_any _ _).mono ?_); rintro e w' ⟨rfl, rfl⟩)
      go_ret2
      exact ⟨ret2_gap H.out.1.symm H.out.2.symm, Below.refl _ _⟩
  · have h3 := not_false h1
    have H := Lib.hid (show wgN a b = 0 ∧ wgB a b = false by simp [wgN, wgB, h3])
    go_enter Try.func10, Try.ntmps10
    go_wp2_with (go_at_call 37; (with_reducible refine (l3Step_any _ _).mono ?_); rintro e w' ⟨rfl, rfl⟩)
    go_ret2
    exact ⟨ret2_gap H.out.1.symm H.out.2.symm, Below.refl _ _⟩
end Go.Proofs.Ytjhpjdlfdgpklab
