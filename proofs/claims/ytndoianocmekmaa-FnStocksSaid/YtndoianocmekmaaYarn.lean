/- The walks over a yarn and a number, both texts. Conditions: as they stand. -/
import Derived.Test.YtndoianocmekmaaYarnMath
import Derived.IntWalk
import Derived.BigQuiet
namespace Go.Proofs.Ytndoianocmekmaa
open Go.RowKit

set_option maxRecDepth 100000 in
set_option maxHeartbeats 400000 in
theorem divUp10_any (x b : Int) (w : World) (h0 : 0 ≤ x) (h1 : x ≤ 1000000000000) (hb0 : 1 ≤ b) (hb1 : b ≤ 1000000) : Calls Try.prog 58 #[.int .i64 x, .int .i64 b] w fun e w' => e = .returned (.int .i64 ((x + (b - 1)) / b)) ∧ w = w' := by
  have hne : (b == 0) = false := by simp; omega
  have hq : 0 ≤ (x + b - 1) / b := Int.ediv_nonneg (by omega) (by omega)
  have hq2 : (x + b - 1) / b ≤ x + b - 1 := Int.ediv_le_self _ (by omega)
  have ed : Int.tdiv (x + b - 1) b = (x + b - 1) / b := Int.tdiv_eq_ediv_of_nonneg (by omega)
  go_enter Try.func58, Try.ntmps58
  go_wp2
  go_ret
  exact ⟨ret_int (by first | (rw [ed]; congr 1; omega) | (congr 1; omega)), rfl⟩
set_option maxRecDepth 100000 in
set_option maxHeartbeats 2000000 in
theorem implIsYarn_any (s : YarnR) (w : World) : Calls Try.prog 9 #[.agg #[.int .i64 s.f0, .int .i64 s.f1, .int .i64 s.f2, .int .i64 s.f3]] w (Tells w (goodY s)) := by
  have hb0 := Lib.hid (show Below w.heap.size w (w.alloc (.cells #[.int .i64 s.f0, .int .i64 s.f1, .int .i64 s.f2, .int .i64 s.f3] 25)) from (Below.refl _ _).alloc (Nat.le_refl _) _)
  by_cases h0 : inB s.f0 1 30 = true
  rotate_left
  · have h0' := not_false h0
    have H := Lib.hid (goodY_no (y := s) fun hh => h0 (decide_eq_true hh.1))
    go_enter Try.func9, Try.ntmps9
    go_wp2_with (first | (go_at_call 33; (with_reducible refine (isBetween_any _ _ _ _).mono ?_); rintro e w' ⟨rfl, rfl⟩))
    go_ret
    exact ⟨ret_bool H.out.symm, hb0.out⟩
  by_cases h1 : inB s.f1 1 40 = true
  rotate_left
  · have h1' := not_false h1
    have H := Lib.hid (goodY_no (y := s) fun hh => h1 (decide_eq_true hh.2.1))
    go_enter Try.func9, Try.ntmps9
    go_wp2_with (first | (go_at_call 33; (with_reducible refine (isBetween_any _ _ _ _).mono ?_); rintro e w' ⟨rfl, rfl⟩))
    go_ret
    exact ⟨ret_bool H.out.symm, hb0.out⟩
  by_cases h2 : inB s.f2 0 100 = true
  rotate_left
  · have h2' := not_false h2
    have H := Lib.hid (goodY_no (y := s) fun hh => h2 (decide_eq_true hh.2.2.1))
    go_enter Try.func9, Try.ntmps9
    go_wp2_with (first | (go_at_call 33; (with_reducible refine (isBetween_any _ _ _ _).mono ?_); rintro e w' ⟨rfl, rfl⟩))
    go_ret
    exact ⟨ret_bool H.out.symm, hb0.out⟩
  by_cases h3 : inB s.f3 1 1000 = true
  rotate_left
  · have h3' := not_false h3
    have H := Lib.hid (goodY_no (y := s) fun hh => h3 (decide_eq_true hh.2.2.2))
    go_enter Try.func9, Try.ntmps9
    go_wp2_with (first | (go_at_call 33; (with_reducible refine (isBetween_any _ _ _ _).mono ?_); rintro e w' ⟨rfl, rfl⟩))
    go_ret
    exact ⟨ret_bool H.out.symm, hb0.out⟩
  have H := Lib.hid (show goodY s = true from decide_eq_true ⟨inB_yes h0, inB_yes h1, inB_yes h2, inB_yes h3⟩)
  go_enter Try.func9, Try.ntmps9
  go_wp2_with (first | (go_at_call 33; (with_reducible refine (isBetween_any _ _ _ _).mono ?_); rintro e w' ⟨rfl, rfl⟩))
  go_ret
  exact ⟨ret_bool H.out.symm, hb0.out⟩
set_option maxRecDepth 100000 in
set_option maxHeartbeats 2000000 in
theorem l10Good_any (s : YarnR) (w : World) : Calls Try.prog 35 #[.agg #[.int .i64 s.f0, .int .i64 s.f1, .int .i64 s.f2, .int .i64 s.f3]] w (Tells w (goodY s)) := by
  have hb0 := Lib.hid (show Below w.heap.size w (w.alloc (.cells #[.int .i64 s.f0, .int .i64 s.f1, .int .i64 s.f2, .int .i64 s.f3] 25)) from (Below.refl _ _).alloc (Nat.le_refl _) _)
  by_cases h0 : inB s.f0 1 30 = true
  rotate_left
  · have h0' := not_false h0
    have H := Lib.hid (goodY_no (y := s) fun hh => h0 (decide_eq_true hh.1))
    go_enter Try.func35, Try.ntmps35
    go_wp2_with (first | (go_at_call 36; (with_reducible refine (l1In_any _ _ _ _).mono ?_); rintro e w' ⟨rfl, rfl⟩))
    go_ret
    exact ⟨ret_bool H.out.symm, hb0.out⟩
  by_cases h1 : inB s.f1 1 40 = true
  rotate_left
  · have h1' := not_false h1
    have H := Lib.hid (goodY_no (y := s) fun hh => h1 (decide_eq_true hh.2.1))
    go_enter Try.func35, Try.ntmps35
    go_wp2_with (first | (go_at_call 36; (with_reducible refine (l1In_any _ _ _ _).mono ?_); rintro e w' ⟨rfl, rfl⟩))
    go_ret
    exact ⟨ret_bool H.out.symm, hb0.out⟩
  by_cases h2 : inB s.f2 0 100 = true
  rotate_left
  · have h2' := not_false h2
    have H := Lib.hid (goodY_no (y := s) fun hh => h2 (decide_eq_true hh.2.2.1))
    go_enter Try.func35, Try.ntmps35
    go_wp2_with (first | (go_at_call 36; (with_reducible refine (l1In_any _ _ _ _).mono ?_); rintro e w' ⟨rfl, rfl⟩))
    go_ret
    exact ⟨ret_bool H.out.symm, hb0.out⟩
  by_cases h3 : inB s.f3 1 1000 = true
  rotate_left
  · have h3' := not_false h3
    have H := Lib.hid (goodY_no (y := s) fun hh => h3 (decide_eq_true hh.2.2.2))
    go_enter Try.func35, Try.ntmps35
    go_wp2_with (first | (go_at_call 36; (with_reducible refine (l1In_any _ _ _ _).mono ?_); rintro e w' ⟨rfl, rfl⟩))
    go_ret
    exact ⟨ret_bool H.out.symm, hb0.out⟩
  have H := Lib.hid (show goodY s = true from decide_eq_true ⟨inB_yes h0, inB_yes h1, inB_yes h2, inB_yes h3⟩)
  go_enter Try.func35, Try.ntmps35
  go_wp2_with (first | (go_at_call 36; (with_reducible refine (l1In_any _ _ _ _).mono ?_); rintro e w' ⟨rfl, rfl⟩))
  go_ret
  exact ⟨ret_bool H.out.symm, hb0.out⟩
set_option maxRecDepth 100000 in
set_option maxHeartbeats 400000 in
theorem specIsYarn_any (s : YarnR) (w : World) : Calls Try.prog 10 #[.agg #[.int .i64 s.f0, .int .i64 s.f1, .int .i64 s.f2, .int .i64 s.f3]] w (Tells w (goodY s)) := by
  have hb0 := Lib.hid (show Below w.heap.size w (w.alloc (.cells #[.int .i64 s.f0, .int .i64 s.f1, .int .i64 s.f2, .int .i64 s.f3] 25)) from (Below.refl _ _).alloc (Nat.le_refl _) _)
  go_enter Try.func10, Try.ntmps10
  go_wp2_with fail
  refine (l10Good_any s _).mono ?_
  rintro e w1 ⟨rfl, hb⟩
  go_wp2
  go_ret
  exact ⟨rfl, hb0.out.trans (hb.mono (by simp))⟩
set_option maxRecDepth 100000 in
set_option maxHeartbeats 400000 in
theorem knotShares_any (s : YarnR) (w : World) (h : goodY s = true) : Calls Try.prog 38 #[.agg #[.int .i64 s.f0, .int .i64 s.f1, .int .i64 s.f2, .int .i64 s.f3]] w (Out w (.int .i64 (sharesY s))) := by
  have hb0 := Lib.hid (show Below w.heap.size w (w.alloc (.cells #[.int .i64 s.f0, .int .i64 s.f1, .int .i64 s.f2, .int .i64 s.f3] 25)) from (Below.refl _ _).alloc (Nat.le_refl _) _)
  have hg := goodY_bd h
  have hs := Lib.hid (sharesY_bd h)
  have E0 : IntKind.i64.wrap (2 * s.f0) = 2 * s.f0 := IntWalk.i64_in _ (by omega)
  have E1 : IntKind.i64.wrap (2 * s.f0 + s.f1) = 2 * s.f0 + s.f1 := IntWalk.i64_in _ (by omega)
  have E2 : IntKind.i64.wrap (100 + s.f2) = 100 + s.f2 := IntWalk.i64_in _ (by omega)
  have E3 : IntKind.i64.wrap ((2 * s.f0 + s.f1) * (100 + s.f2)) = (2 * s.f0 + s.f1) * (100 + s.f2) := IntWalk.i64_in _ (by have := hs.out; unfold sharesY at this; omega)
  go_enter Try.func38, Try.ntmps38
  go_wp2
  go_ret
  exact ⟨rfl, hb0.out⟩
set_option maxRecDepth 100000 in
set_option maxHeartbeats 400000 in
theorem lengthFor_any (s : YarnR) (k : Int) (w : World) (h : goodY s = true) (h0 : 0 ≤ k) (h1 : k ≤ 100000) : Calls Try.prog 34 #[.agg #[.int .i64 s.f0, .int .i64 s.f1, .int .i64 s.f2, .int .i64 s.f3], .int .i64 k] w (Out w (.int .i64 (lenY s k))) := by
  have hb0 := Lib.hid (show Below w.heap.size w (w.alloc (.cells #[.int .i64 s.f0, .int .i64 s.f1, .int .i64 s.f2, .int .i64 s.f3] 25)) from (Below.refl _ _).alloc (Nat.le_refl _) _)
  have hm := lenY_mul h h0 h1
  have E0 : IntKind.i64.wrap (k * sharesY s) = k * sharesY s := IntWalk.i64_in _ (by omega)
  go_enter Try.func34, Try.ntmps34
  go_wp2_with fail
  refine (knotShares_any s _ h).mono ?_
  rintro e w1 ⟨rfl, hb⟩
  replace hb0 := Lib.hid (hb0.out.trans (hb.mono (by simp)))
  clear hb
  go_wp2_with (go_at_call 58; (with_reducible refine (divUp10_any _ _ _ hm.1 (by omega) (by omega) (by omega)).mono ?_); rintro e w' ⟨rfl, rfl⟩)
  go_ret
  exact ⟨rfl, hb0.out⟩
set_option maxRecDepth 100000 in
set_option maxHeartbeats 1000000 in
theorem ballsFor_any (s : YarnR) (k : Int) (w : World) (h : goodY s = true) (h0 : 0 ≤ k) (h1 : k ≤ 100000) : Calls Try.prog 41 #[.agg #[.int .i64 s.f0, .int .i64 s.f1, .int .i64 s.f2, .int .i64 s.f3], .int .i64 k] w (Out w (.int .i64 (ballsY s k))) := by
  have hb0 := Lib.hid (show Below w.heap.size w (w.alloc (.cells #[.int .i64 s.f0, .int .i64 s.f1, .int .i64 s.f2, .int .i64 s.f3] 25)) from (Below.refl _ _).alloc (Nat.le_refl _) _)
  have hm := lenY_bd h h0 h1
  have hg := goodY_bd h
  obtain ⟨L, HL⟩ : ∃ L, Hid (lenY s k = L) := ⟨_, rfl⟩
  have HB := Lib.hid (show ballsY s k = (L + (s.f3 * 1000 - 1)) / (s.f3 * 1000) by rw [← HL.out]; rfl)
  have HC := Lib.hid (fun w => HL.out ▸ lengthFor_any s k w h h0 h1)
  rw [HL.out] at hm
  clear HL
  go_enter Try.func41, Try.ntmps41
  have E0 : IntKind.i64.wrap (s.f3 * 1000) = s.f3 * 1000 := IntWalk.i64_in _ (by omega)
  have y0 := Blk.new w #[.int .i64 s.f0, .int .i64 s.f1, .int .i64 s.f2, .int .i64 s.f3] 25
  have z0 : w.heap.size < (w.alloc (.cells #[.int .i64 s.f0, .int .i64 s.f1, .int .i64 s.f2, .int .i64 s.f3] 25)).heap.size := by simp
  go_wp2
  go_region_held3 (fun w' => w'.cell? ⟨w.heap.size, 0, none⟩ = some (.int .i64 s.f0) ∧ w'.cell? ⟨w.heap.size, 1, none⟩ = some (.int .i64 s.f1) ∧ w'.cell? ⟨w.heap.size, 2, none⟩ = some (.int .i64 s.f2) ∧ w'.cell? ⟨w.heap.size, 3, none⟩ = some (.int .i64 s.f3)) (first | exact ⟨y0.cell 0, y0.cell 1, y0.cell 2, y0.cell 3⟩ | go_keep) (first | (go_at_call 34; (with_reducible refine (HC.out _).mono ?_); rintro e w1 ⟨rfl, hb⟩; (try replace hb := below_drew' hb); replace y0 := y0.all hb; replace hb0 := Lib.hid (hb0.out.trans (hb.mono (by simp)))) | (go_at_call 58; (with_reducible refine (divUp10_any _ _ _ hm.1 (by omega) (by omega) (by omega)).mono ?_); rintro e w2 ⟨rfl, rfl⟩))
  all_goals
    go_wp2
    go_ret
    exact ⟨ret_int HB.out.symm, hb0.out⟩
set_option maxRecDepth 100000 in
set_option maxHeartbeats 400000 in
theorem l10For_any (s : YarnR) (k : Int) (w : World) (h : goodY s = true) (h0 : 0 ≤ k) (h1 : k ≤ 100000) : Calls Try.prog 37 #[.agg #[.int .i64 s.f0, .int .i64 s.f1, .int .i64 s.f2, .int .i64 s.f3], .int .i64 k] w (Out w (.int .i64 (lenY s k))) := by
  have hb0 := Lib.hid (show Below w.heap.size w (w.alloc (.cells #[.int .i64 s.f0, .int .i64 s.f1, .int .i64 s.f2, .int .i64 s.f3] 25)) from (Below.refl _ _).alloc (Nat.le_refl _) _)
  have hg := goodY_bd h
  have hs := Lib.hid (sharesY_bd h)
  have E0 : IntKind.i64.wrap (2 * s.f0) = 2 * s.f0 := IntWalk.i64_in _ (by omega)
  have E1 : IntKind.i64.wrap (2 * s.f0 + s.f1) = 2 * s.f0 + s.f1 := IntWalk.i64_in _ (by omega)
  have E2 : IntKind.i64.wrap (100 + s.f2) = 100 + s.f2 := IntWalk.i64_in _ (by omega)
  have hm := Lib.hid (lenY_mul h h0 h1)
  have hm1 := mul_bd h0 h1 (show 0 ≤ 2 * s.f0 + s.f1 by omega) (show 2 * s.f0 + s.f1 ≤ 100 by omega)
  have E3 : IntKind.i64.wrap (k * (2 * s.f0 + s.f1)) = k * (2 * s.f0 + s.f1) := IntWalk.i64_in _ (by omega)
  have e4 : k * (2 * s.f0 + s.f1) * (100 + s.f2) = k * sharesY s := Int.mul_assoc _ _ _
  have E8 : IntKind.i64.wrap (k * sharesY s) = k * sharesY s := IntWalk.i64_in _ (by have := hm.out; omega)
  have E4 : IntKind.i64.wrap (k * (2 * s.f0 + s.f1) * (100 + s.f2)) = k * sharesY s := by rw [e4]; exact IntWalk.i64_in _ (by have := hm.out; omega)
  have E5 : IntKind.i64.wrap (k * sharesY s + 99) = k * sharesY s + 99 := IntWalk.i64_in _ (by have := hm.out; omega)
  have E6 : Int.tdiv (k * sharesY s + 99) 100 = (k * sharesY s + 99) / 100 := Int.tdiv_eq_ediv_of_nonneg (by have := hm.out; omega)
  have E7 : IntKind.i64.wrap ((k * sharesY s + 99) / 100) = (k * sharesY s + 99) / 100 := IntWalk.i64_in _ (by have := hm.out; omega)
  go_enter Try.func37, Try.ntmps37
  go_wp2
  go_ret
  exact ⟨ret_int (by first | rfl | exact E6 | (rw [E6]; rfl)), hb0.out⟩
end Go.Proofs.Ytndoianocmekmaa
