/- The walks of YarnFor and KnotsFrom, both texts. Condition: a number of 64 bits. -/
import Derived.Test.YtndoianocmekmaaYarn
namespace Go.Proofs.Ytndoianocmekmaa
open Go.RowKit

set_option maxRecDepth 100000 in
set_option maxHeartbeats 1000000 in
theorem implYarnFor_any (s : YarnR) (k : Int) (w : World) : Calls Try.prog 7 #[.agg #[.int .i64 s.f0, .int .i64 s.f1, .int .i64 s.f2, .int .i64 s.f3], .int .i64 k] w (Out w (.tuple #[.int .i64 (yarnForX s k), .bool (forX s k)])) := by
  have hb0 := Lib.hid (show Below w.heap.size w (w.alloc (.cells #[.int .i64 s.f0, .int .i64 s.f1, .int .i64 s.f2, .int .i64 s.f3] 25)) from (Below.refl _ _).alloc (Nat.le_refl _) _)
  have y0 := Blk.new w #[.int .i64 s.f0, .int .i64 s.f1, .int .i64 s.f2, .int .i64 s.f3] 25
  by_cases h : goodY s = true
  rotate_left
  · have h' := not_false h
    rw [show yarnForX s k = 0 from by simp [yarnForX, forX_no0 h'], forX_no0 h']
    go_enter Try.func7, Try.ntmps7
    go_wp2_with fail
    refine (implIsYarn_any s _).mono ?_
    rintro e w1 ⟨rfl, hb⟩
    replace y0 := y0.all hb
    replace hb0 := Lib.hid (hb0.out.trans (hb.mono (by simp)))
    clear hb
    rw [h']
    go_wp2
    go_ret2
    exact ⟨rfl, hb0.out⟩
  by_cases hk : inB k 0 100000 = true
  rotate_left
  · have hk' := not_false hk
    rw [show yarnForX s k = 0 from by simp [yarnForX, forX_no1 hk'], forX_no1 hk']
    go_enter Try.func7, Try.ntmps7
    go_wp2_with fail
    refine (implIsYarn_any s _).mono ?_
    rintro e w1 ⟨rfl, hb⟩
    replace y0 := y0.all hb
    replace hb0 := Lib.hid (hb0.out.trans (hb.mono (by simp)))
    clear hb
    rw [h]
    go_wp2_with (go_at_call 33; (with_reducible refine (isBetween_any _ _ _ _).mono ?_); rintro e w' ⟨rfl, rfl⟩)
    go_ret2
    exact ⟨rfl, hb0.out⟩
  rw [show yarnForX s k = lenY s k from by simp [yarnForX, forX_yes h hk], forX_yes h hk]
  have hr := inB_yes hk
  go_enter Try.func7, Try.ntmps7
  go_wp2_with fail
  refine (implIsYarn_any s _).mono ?_
  rintro e w1 ⟨rfl, hb⟩
  replace y0 := y0.all hb
  replace hb0 := Lib.hid (hb0.out.trans (hb.mono (by simp)))
  clear hb
  rw [h]
  have e0 := y0.cell 0
  have e1 := y0.cell 1
  have e2 := y0.cell 2
  have e3 := y0.cell 3
  go_wp2_with (go_at_call 33; (with_reducible refine (isBetween_any _ _ _ _).mono ?_); rintro e w' ⟨rfl, rfl⟩)
  refine (lengthFor_any s k _ h hr.1 hr.2).mono ?_
  rintro e w2 ⟨rfl, hb⟩
  replace hb0 := Lib.hid (hb0.out.trans (hb.mono hb0.out.size))
  go_wp2
  go_ret2
  exact ⟨rfl, hb0.out⟩
set_option maxRecDepth 100000 in
set_option maxHeartbeats 1000000 in
theorem specYarnFor_any (s : YarnR) (k : Int) (w : World) : Calls Try.prog 8 #[.agg #[.int .i64 s.f0, .int .i64 s.f1, .int .i64 s.f2, .int .i64 s.f3], .int .i64 k] w (Out w (.tuple #[.int .i64 (yarnForX s k), .bool (forX s k)])) := by
  have hb0 := Lib.hid (show Below w.heap.size w (w.alloc (.cells #[.int .i64 s.f0, .int .i64 s.f1, .int .i64 s.f2, .int .i64 s.f3] 25)) from (Below.refl _ _).alloc (Nat.le_refl _) _)
  have y0 := Blk.new w #[.int .i64 s.f0, .int .i64 s.f1, .int .i64 s.f2, .int .i64 s.f3] 25
  by_cases h : goodY s = true
  rotate_left
  · have h' := not_false h
    rw [show yarnForX s k = 0 from by simp [yarnForX, forX_no0 h'], forX_no0 h']
    go_enter Try.func8, Try.ntmps8
    go_wp2_with fail
    refine (l10Good_any s _).mono ?_
    rintro e w1 ⟨rfl, hb⟩
    replace y0 := y0.all hb
    replace hb0 := Lib.hid (hb0.out.trans (hb.mono (by simp)))
    clear hb
    rw [h']
    go_wp2
    go_ret2
    exact ⟨rfl, hb0.out⟩
  by_cases hk : inB k 0 100000 = true
  rotate_left
  · have hk' := not_false hk
    rw [show yarnForX s k = 0 from by simp [yarnForX, forX_no1 hk'], forX_no1 hk']
    go_enter Try.func8, Try.ntmps8
    go_wp2_with fail
    refine (l10Good_any s _).mono ?_
    rintro e w1 ⟨rfl, hb⟩
    replace y0 := y0.all hb
    replace hb0 := Lib.hid (hb0.out.trans (hb.mono (by simp)))
    clear hb
    rw [h]
    go_wp2_with (go_at_call 36; (with_reducible refine (l1In_any _ _ _ _).mono ?_); rintro e w' ⟨rfl, rfl⟩)
    go_ret2
    exact ⟨rfl, hb0.out⟩
  rw [show yarnForX s k = lenY s k from by simp [yarnForX, forX_yes h hk], forX_yes h hk]
  have hr := inB_yes hk
  go_enter Try.func8, Try.ntmps8
  go_wp2_with fail
  refine (l10Good_any s _).mono ?_
  rintro e w1 ⟨rfl, hb⟩
  replace y0 := y0.all hb
  replace hb0 := Lib.hid (hb0.out.trans (hb.mono (by simp)))
  clear hb
  rw [h]
  have e0 := y0.cell 0
  have e1 := y0.cell 1
  have e2 := y0.cell 2
  have e3 := y0.cell 3
  go_wp2_with (go_at_call 36; (with_reducible refine (l1In_any _ _ _ _).mono ?_); rintro e w' ⟨rfl, rfl⟩)
  refine (l10For_any s k _ h hr.1 hr.2).mono ?_
  rintro e w2 ⟨rfl, hb⟩
  replace hb0 := Lib.hid (hb0.out.trans (hb.mono hb0.out.size))
  go_wp2
  go_ret2
  exact ⟨rfl, hb0.out⟩
theorem ret_int2 {a b : Int} {c : Bool} (h : a = b) : Ending.returned (.tuple #[.int .i64 a, .bool c]) = .returned (.tuple #[.int .i64 b, .bool c]) := by rw [h]
set_option maxRecDepth 100000 in
set_option maxHeartbeats 1000000 in
theorem implKnotsFrom_any (s : YarnR) (k : Int) (w : World) : Calls Try.prog 11 #[.agg #[.int .i64 s.f0, .int .i64 s.f1, .int .i64 s.f2, .int .i64 s.f3], .int .i64 k] w (Out w (.tuple #[.int .i64 (knotsFromX s k), .bool (forX s k)])) := by
  have hb0 := Lib.hid (show Below w.heap.size w (w.alloc (.cells #[.int .i64 s.f0, .int .i64 s.f1, .int .i64 s.f2, .int .i64 s.f3] 25)) from (Below.refl _ _).alloc (Nat.le_refl _) _)
  have y0 := Blk.new w #[.int .i64 s.f0, .int .i64 s.f1, .int .i64 s.f2, .int .i64 s.f3] 25
  by_cases h : goodY s = true
  rotate_left
  · have h' := not_false h
    rw [show knotsFromX s k = 0 from by simp [knotsFromX, forX_no0 h'], forX_no0 h']
    go_enter Try.func11, Try.ntmps11
    go_wp2_with fail
    refine (implIsYarn_any s _).mono ?_
    rintro e w1 ⟨rfl, hb⟩
    replace y0 := y0.all hb
    replace hb0 := Lib.hid (hb0.out.trans (hb.mono (by simp)))
    clear hb
    rw [h']
    go_wp2
    go_ret2
    exact ⟨rfl, hb0.out⟩
  by_cases hk : inB k 0 100000 = true
  rotate_left
  · have hk' := not_false hk
    rw [show knotsFromX s k = 0 from by simp [knotsFromX, forX_no1 hk'], forX_no1 hk']
    go_enter Try.func11, Try.ntmps11
    go_wp2_with fail
    refine (implIsYarn_any s _).mono ?_
    rintro e w1 ⟨rfl, hb⟩
    replace y0 := y0.all hb
    replace hb0 := Lib.hid (hb0.out.trans (hb.mono (by simp)))
    clear hb
    rw [h]
    go_wp2_with (go_at_call 33; (with_reducible refine (isBetween_any _ _ _ _).mono ?_); rintro e w' ⟨rfl, rfl⟩)
    go_ret2
    exact ⟨rfl, hb0.out⟩
  rw [show knotsFromX s k = k * 100 / sharesY s from by simp [knotsFromX, forX_yes h hk], forX_yes h hk]
  have hr := inB_yes hk
  have hs := sharesY_bd h
  have E0 : IntKind.i64.wrap (k * 100) = k * 100 := IntWalk.i64_in _ (by omega)
  have ed : Int.tdiv (k * 100) (sharesY s) = k * 100 / sharesY s := Int.tdiv_eq_ediv_of_nonneg (by omega)
  have hq : 0 ≤ k * 100 / sharesY s := Int.ediv_nonneg (by omega) (by omega)
  have hq2 : k * 100 / sharesY s ≤ k * 100 := Int.ediv_le_self _ (by omega)
  have E9 : IntKind.i64.wrap (k * 100 / sharesY s) = k * 100 / sharesY s := IntWalk.i64_in _ (by omega)
  have hne : (sharesY s == 0) = false := by simp; omega
  go_enter Try.func11, Try.ntmps11
  go_wp2_with fail
  refine (implIsYarn_any s _).mono ?_
  rintro e w1 ⟨rfl, hb⟩
  replace y0 := y0.all hb
  replace hb0 := Lib.hid (hb0.out.trans (hb.mono (by simp)))
  clear hb
  rw [h]
  have e0 := y0.cell 0
  have e1 := y0.cell 1
  have e2 := y0.cell 2
  have e3 := y0.cell 3
  go_wp2_with (go_at_call 33; (with_reducible refine (isBetween_any _ _ _ _).mono ?_); rintro e w' ⟨rfl, rfl⟩)
  refine (knotShares_any s _ h).mono ?_
  rintro e w2 ⟨rfl, hb⟩
  replace hb0 := Lib.hid (hb0.out.trans (hb.mono hb0.out.size))
  clear hb
  go_wp2
  go_ret2
  exact ⟨ret_int2 (by first | rfl | (rw [ed]; first | rfl | exact E9)), hb0.out⟩
set_option maxRecDepth 100000 in
set_option maxHeartbeats 1000000 in
theorem specKnotsFrom_any (s : YarnR) (k : Int) (w : World) : Calls Try.prog 19 #[.agg #[.int .i64 s.f0, .int .i64 s.f1, .int .i64 s.f2, .int .i64 s.f3], .int .i64 k] w (Out w (.tuple #[.int .i64 (knotsFromX s k), .bool (forX s k)])) := by
  have hb0 := Lib.hid (show Below w.heap.size w (w.alloc (.cells #[.int .i64 s.f0, .int .i64 s.f1, .int .i64 s.f2, .int .i64 s.f3] 25)) from (Below.refl _ _).alloc (Nat.le_refl _) _)
  have y0 := Blk.new w #[.int .i64 s.f0, .int .i64 s.f1, .int .i64 s.f2, .int .i64 s.f3] 25
  by_cases h : goodY s = true
  rotate_left
  · have h' := not_false h
    rw [show knotsFromX s k = 0 from by simp [knotsFromX, forX_no0 h'], forX_no0 h']
    go_enter Try.func19, Try.ntmps19
    go_wp2_with fail
    refine (l10Good_any s _).mono ?_
    rintro e w1 ⟨rfl, hb⟩
    replace y0 := y0.all hb
    replace hb0 := Lib.hid (hb0.out.trans (hb.mono (by simp)))
    clear hb
    rw [h']
    go_wp2
    go_ret2
    exact ⟨rfl, hb0.out⟩
  by_cases hk : inB k 0 100000 = true
  rotate_left
  · have hk' := not_false hk
    rw [show knotsFromX s k = 0 from by simp [knotsFromX, forX_no1 hk'], forX_no1 hk']
    go_enter Try.func19, Try.ntmps19
    go_wp2_with fail
    refine (l10Good_any s _).mono ?_
    rintro e w1 ⟨rfl, hb⟩
    replace y0 := y0.all hb
    replace hb0 := Lib.hid (hb0.out.trans (hb.mono (by simp)))
    clear hb
    rw [h]
    go_wp2_with (go_at_call 36; (with_reducible refine (l1In_any _ _ _ _).mono ?_); rintro e w' ⟨rfl, rfl⟩)
    go_ret2
    exact ⟨rfl, hb0.out⟩
  rw [show knotsFromX s k = k * 100 / sharesY s from by simp [knotsFromX, forX_yes h hk], forX_yes h hk]
  have hr := inB_yes hk
  have hs := sharesY_bd h
  have E0 : IntKind.i64.wrap (k * 100) = k * 100 := IntWalk.i64_in _ (by omega)
  have ed : Int.tdiv (k * 100) (sharesY s) = k * 100 / sharesY s := Int.tdiv_eq_ediv_of_nonneg (by omega)
  have hq : 0 ≤ k * 100 / sharesY s := Int.ediv_nonneg (by omega) (by omega)
  have hq2 : k * 100 / sharesY s ≤ k * 100 := Int.ediv_le_self _ (by omega)
  have E9 : IntKind.i64.wrap (k * 100 / sharesY s) = k * 100 / sharesY s := IntWalk.i64_in _ (by omega)
  have hne : (sharesY s == 0) = false := by simp; omega
  have hg := goodY_bd h
  have F0 : IntKind.i64.wrap (2 * s.f0) = 2 * s.f0 := IntWalk.i64_in _ (by omega)
  have F1 : IntKind.i64.wrap (2 * s.f0 + s.f1) = 2 * s.f0 + s.f1 := IntWalk.i64_in _ (by omega)
  have F2 : IntKind.i64.wrap (100 + s.f2) = 100 + s.f2 := IntWalk.i64_in _ (by omega)
  have F3 : (2 * s.f0 + s.f1) * (100 + s.f2) = sharesY s := rfl
  have F4 : IntKind.i64.wrap (sharesY s) = sharesY s := IntWalk.i64_in _ (by omega)
  have F5 : IntKind.i64.wrap (100 * k) = k * 100 := by rw [Int.mul_comm]; exact E0
  go_enter Try.func19, Try.ntmps19
  go_wp2_with fail
  refine (l10Good_any s _).mono ?_
  rintro e w1 ⟨rfl, hb⟩
  replace y0 := y0.all hb
  replace hb0 := Lib.hid (hb0.out.trans (hb.mono (by simp)))
  clear hb
  rw [h]
  have e0 := y0.cell 0
  have e1 := y0.cell 1
  have e2 := y0.cell 2
  have e3 := y0.cell 3
  go_wp2_with (go_at_call 36; (with_reducible refine (l1In_any _ _ _ _).mono ?_); rintro e w' ⟨rfl, rfl⟩)
  go_ret2
  exact ⟨ret_int2 (by first | rfl | (rw [ed]; first | rfl | exact E9)), hb0.out⟩
end Go.Proofs.Ytndoianocmekmaa
