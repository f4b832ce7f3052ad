/- The walks of IsChart, the program's and the model's, and of what they call. No condition. -/
import Derived.Test.YtpnmnkdnlajfiaaChartMath
import Derived.Test.YtpnmnkdnlajfiaaHelpChart
import Derived.Test.YtpnmnkdnlajfiaaBase
namespace Go.Proofs.Ytpnmnkdnlajfiaa
open Go.RowKit

set_option maxRecDepth 100000 in
set_option maxHeartbeats 400000 in
theorem isSide_any (n : Int) (w : World) : Calls Try.prog 56 #[.int .i64 n] w fun e w' => e = .returned (.bool (isSideB n)) ∧ w = w' := by
  go_enter Try.func56, Try.ntmps56
  go_wp2
  all_goals
    go_ret
    exact ⟨ret_bool (by simp [isSideB, *] <;> omega), rfl⟩
set_option maxRecDepth 100000 in
set_option maxHeartbeats 400000 in
theorem isColor_any (n : Int) (w : World) : Calls Try.prog 50 #[.int .i64 n] w fun e w' => e = .returned (.bool (isColorB n)) ∧ w = w' := by
  go_enter Try.func50, Try.ntmps50
  go_wp2
  all_goals
    go_ret
    exact ⟨ret_bool (by simp [isColorB, *] <;> omega), rfl⟩
theorem inB_side (n : Int) : inB n 1 8 = isSideB n := rfl
theorem inB_color (n : Int) : inB n 0 5 = isColorB n := by unfold inB isColorB; rw [Bool.eq_iff_iff]; simp; omega
set_option maxRecDepth 100000 in
set_option maxHeartbeats 400000 in
theorem l2Side_any (n : Int) (w : World) : Calls Try.prog 59 #[.int .i64 n] w fun e w' => e = .returned (.bool (isSideB n)) ∧ w = w' := by
  go_enter Try.func59, Try.ntmps59
  go_wp2_with (go_at_call 55; refine (l1In_any _ _ _ _).mono ?_; rintro e w' ⟨rfl, rfl⟩)
  go_ret
  exact ⟨rfl, rfl⟩
set_option maxRecDepth 100000 in
set_option maxHeartbeats 400000 in
theorem l2Color_any (n : Int) (w : World) : Calls Try.prog 44 #[.int .i64 n] w fun e w' => e = .returned (.bool (isColorB n)) ∧ w = w' := by
  go_enter Try.func44, Try.ntmps44
  go_wp2_with (go_at_call 55; refine (l1In_any _ _ _ _).mono ?_; rintro e w' ⟨rfl, rfl⟩)
  go_ret
  exact ⟨ret_bool (inB_color n), rfl⟩

theorem good_len {W H : Int} {xs : List Int} (h : (xs.length : Int) ≠ W * H) : goodB W H xs = false := by simp [goodB, h]
theorem good_W {W H : Int} {xs : List Int} (h : ¬ isSideB W = true) : goodB W H xs = false := by simp [goodB, h]
theorem good_H {W H : Int} {xs : List Int} (h : ¬ isSideB H = true) : goodB W H xs = false := by simp [goodB, h]
theorem good_bad {W H : Int} {xs : List Int} (h : xs.all isColorB = false) : goodB W H xs = false := by simp [goodB, h]
theorem good_ok {W H : Int} {xs : List Int} (h1 : isSideB W = true) (h2 : isSideB H = true) (h3 : (xs.length : Int) = W * H) (h4 : xs.all isColorB = true) : goodB W H xs = true := by simp only [goodB, h1, h2, h3, h4]; simp

set_option maxRecDepth 100000 in
set_option maxHeartbeats 1000000 in
theorem areColors_any (A : Option Addr) (n c B : Nat) (xs : List Int) (w : World) (h : Rd w B A n c xs) :
    Calls Try.prog 57 #[.slice A n c] w fun e w' => e = .returned (.bool (xs.all isColorB)) ∧ w = w' := by
  have hn := h.len_lt
  obtain rfl := h.len
  go_enter Try.func57, Try.ntmps57
  go_wp2
  go_loop [7, 2] (fun i r => ∃ k : Nat, k ≤ xs.length ∧ i = .int .i64 k ∧ r = .bool false ∧ (xs.take k).all isColorB = true) (fun i _ => xs.length - (intOf i).toNat)
  case atStart => exact ⟨0, Nat.zero_le _, rfl, rfl, by simp⟩
  case round =>
    obtain ⟨k, hk, rfl, rfl, hall⟩ := hrel
    have HALL := Lib.hid hall
    clear hall
    by_cases hlt : k < xs.length
    · obtain ⟨b, off, x, rfl, _, hc, _, _, HX⟩ := h.at hlt
      by_cases hp : isColorB x = true
      · go_wp2_with (go_at_call 50; (with_reducible refine (isColor_any _ _).mono ?_); rintro e w' ⟨rfl, rfl⟩)
        go_round
        case rel => exact ⟨k + 1, by omega, by go_num, rfl, all_step HALL.out hlt HX.out hp⟩
        case measure => simp [intOf]; omega
      · have hp' := not_false hp
        go_wp2_with (go_at_call 50; (with_reducible refine (isColor_any _ _).mono ?_); rintro e w' ⟨rfl, rfl⟩)
        go_ret
        exact ⟨ret_bool (all_bad hlt HX.out hp').symm, rfl⟩
    · have HE := Lib.hid (all_end HALL.out (show xs.length ≤ k by omega))
      go_wp2
      go_ret
      exact ⟨ret_bool HE.out.symm, rfl⟩
theorem good_all {W H : Int} {xs : List Int} (h1 : isSideB W = true) (h2 : isSideB H = true) (h3 : (xs.length : Int) = W * H) : goodB W H xs = xs.all isColorB := by simp only [goodB, h1, h2, h3]; simp
set_option maxRecDepth 100000 in
set_option maxHeartbeats 1000000 in
theorem implIsChart_any (W H : Int) (A : Option Addr) (n c B : Nat) (xs : List Int) (w : World) (h : Rd w B A n c xs) (hB : B ≤ w.heap.size) :
    Calls Try.prog 34 #[chartV W H (.slice A n c)] w (Tells w (goodB W H xs)) := by
  have hn := h.len_lt
  obtain rfl := h.len
  have hb0 : Below w.heap.size w (w.alloc (.cells #[.int .i64 W, .int .i64 H, .slice A xs.length c] 26)) := (Below.refl _ _).alloc (Nat.le_refl _) _
  by_cases hW : isSideB W = true
  · have hWb := isSideB_yes hW
    by_cases hH : isSideB H = true
    · have hHb := isSideB_yes hH
      have hm : W * H ≤ 8 * 8 := Int.mul_le_mul hWb.2 hHb.2 (by omega) (by omega)
      have hm0 : 0 ≤ W * H := Int.mul_nonneg (by omega) (by omega)
      have h' := h.alloc hB (.cells #[.int .i64 W, .int .i64 H, .slice A xs.length c] 26)
      have HB := Lib.hid hb0
      clear hb0 h
      by_cases hl0 : (xs.length : Int) = W * H
      · have HL := Lib.hid (good_all hW hH hl0)
        have hl : ((xs.length : Int) != W * H) = false := by simp [hl0]
        clear hl0
        go_enter Try.func34, Try.ntmps34
        go_wp2_with (first | (go_at_call 56; (with_reducible refine (isSide_any _ _).mono ?_); rintro e w' ⟨rfl, rfl⟩) | (go_at_call 57; (with_reducible refine (areColors_any A xs.length c B xs _ h').mono ?_); rintro e w' ⟨rfl, rfl⟩))
        go_ret
        exact ⟨ret_bool HL.out.symm, HB.out⟩
      · have hl : ((xs.length : Int) != W * H) = true := by simpa using hl0
        go_enter Try.func34, Try.ntmps34
        go_wp2_with (go_at_call 56; refine (isSide_any _ _).mono ?_; rintro e w' ⟨rfl, rfl⟩)
        go_ret
        exact ⟨ret_bool (good_len hl0).symm, HB.out⟩
    · have hH' := not_false hH
      go_enter Try.func34, Try.ntmps34
      go_wp2_with (go_at_call 56; refine (isSide_any _ _).mono ?_; rintro e w' ⟨rfl, rfl⟩)
      go_ret
      exact ⟨ret_bool (good_H hH).symm, hb0⟩
  · have hW' := not_false hW
    go_enter Try.func34, Try.ntmps34
    go_wp2_with (go_at_call 56; refine (isSide_any _ _).mono ?_; rintro e w' ⟨rfl, rfl⟩)
    go_ret
    exact ⟨ret_bool (good_W hW).symm, hb0⟩

set_option maxRecDepth 100000 in
set_option maxHeartbeats 1000000 in
theorem l2Good_any (W H : Int) (A : Option Addr) (n c B : Nat) (xs : List Int) (w : World) (h : Rd w B A n c xs) (hB : B ≤ w.heap.size) :
    Calls Try.prog 36 #[chartV W H (.slice A n c)] w (Tells w (goodB W H xs)) := by
  have hn := h.len_lt
  obtain rfl := h.len
  have hb0 := Lib.hid (show Below w.heap.size w (w.alloc (.cells #[.int .i64 W, .int .i64 H, .slice A xs.length c] 26)) from (Below.refl _ _).alloc (Nat.le_refl _) _)
  have h' := h.alloc hB (.cells #[.int .i64 W, .int .i64 H, .slice A xs.length c] 26)
  clear h
  go_enter Try.func36, Try.ntmps36
  go_wp2
  go_loop [3, 2] (fun i r => ∃ k : Nat, k ≤ xs.length ∧ i = .int .i64 k ∧ r = .bool false ∧ (xs.take k).all isColorB = true) (fun i _ => xs.length - (intOf i).toNat)
  case atStart => exact ⟨0, Nat.zero_le _, rfl, rfl, by simp⟩
  case round =>
    obtain ⟨k, hk, rfl, rfl, hall⟩ := hrel
    have HALL := Lib.hid hall
    clear hall
    by_cases hlt : k < xs.length
    · obtain ⟨b, off, x, rfl, _, hc, _, _, HX⟩ := h'.at hlt
      by_cases hp : isColorB x = true
      · go_wp2_with (go_at_call 44; refine (l2Color_any _ _).mono ?_; rintro e w' ⟨rfl, rfl⟩)
        go_round
        case rel => exact ⟨k + 1, by omega, by go_num, rfl, all_step HALL.out hlt HX.out hp⟩
        case measure => simp [intOf]; omega
      · have hp' := not_false hp
        go_wp2_with (go_at_call 44; refine (l2Color_any _ _).mono ?_; rintro e w' ⟨rfl, rfl⟩)
        go_ret
        exact ⟨ret_bool (good_bad (all_bad hlt HX.out hp')).symm, hb0.out⟩
    · by_cases hW : isSideB W = true
      · have hWb := isSideB_yes hW
        by_cases hH : isSideB H = true
        · have hHb := isSideB_yes hH
          have hm : W * H ≤ 8 * 8 := Int.mul_le_mul hWb.2 hHb.2 (by omega) (by omega)
          have hm0 : 0 ≤ W * H := Int.mul_nonneg (by omega) (by omega)
          go_wp2_with (go_at_call 59; refine (l2Side_any _ _).mono ?_; rintro e w' ⟨rfl, rfl⟩)
          go_ret
          exact ⟨ret_bool (by simp [goodB, hW, hH, all_end HALL.out (show xs.length ≤ k by omega)]; rw [Bool.eq_iff_iff]; simp), hb0.out⟩
        · have hH' := not_false hH
          go_wp2_with (go_at_call 59; refine (l2Side_any _ _).mono ?_; rintro e w' ⟨rfl, rfl⟩)
          go_ret
          exact ⟨ret_bool (good_H hH).symm, hb0.out⟩
      · have hW' := not_false hW
        go_wp2_with (go_at_call 59; refine (l2Side_any _ _).mono ?_; rintro e w' ⟨rfl, rfl⟩)
        go_ret
        exact ⟨ret_bool (good_W hW).symm, hb0.out⟩
end Go.Proofs.Ytpnmnkdnlajfiaa
