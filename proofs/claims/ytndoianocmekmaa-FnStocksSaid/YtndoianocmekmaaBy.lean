/- The walks of neededByColor, YarnByColor and BallsByColor of the program. No condition. -/
import Derived.Test.YtndoianocmekmaaCount
import Derived.Test.YtndoianocmekmaaYarn
import Derived.Test.YtndoianocmekmaaByMath
namespace Go.Proofs.Ytndoianocmekmaa
open Go.RowKit

set_option maxRecDepth 100000 in
set_option maxHeartbeats 4000000 in
theorem neededL_any (W H : Int) (A : Option Addr) (n c B : Nat) (xs : List Int) (s : YarnR) (w : World) (h : Rd w B A n c xs) (hB : B ≤ w.heap.size) :
    Calls Try.prog 40 #[chartV W H (.slice A n c), .agg #[.int .i64 s.f0, .int .i64 s.f1, .int .i64 s.f2, .int .i64 s.f3], .func (.func 34) #[.agg #[.int .i64 s.f0, .int .i64 s.f1, .int .i64 s.f2, .int .i64 s.f3]] #[]] w (OutInts w (lensX W H xs s) (byB W H xs s)) := by
  have hb0 := Lib.hid (show Below w.heap.size w ((w.alloc (.cells #[.int .i64 W, .int .i64 H, .slice A n c] 33)).alloc (.cells #[.int .i64 s.f0, .int .i64 s.f1, .int .i64 s.f2, .int .i64 s.f3] 25)) from ((Below.refl _ _).alloc (Nat.le_refl _) _).alloc (by simp) _)
  have h' := (h.alloc hB (.cells #[.int .i64 W, .int .i64 H, .slice A n c] 33)).alloc (by simp; omega) (.cells #[.int .i64 s.f0, .int .i64 s.f1, .int .i64 s.f2, .int .i64 s.f3] 25)
  have x0 := (Blk.new w #[.int .i64 W, .int .i64 H, .slice A n c] 33).alloc (.cells #[.int .i64 s.f0, .int .i64 s.f1, .int .i64 s.f2, .int .i64 s.f3] 25)
  have y0 := (Blk.new (w.alloc (.cells #[.int .i64 W, .int .i64 H, .slice A n c] 33)) #[.int .i64 s.f0, .int .i64 s.f1, .int .i64 s.f2, .int .i64 s.f3] 25).at_ (q := w.heap.size + 1) (by simp)
  by_cases hg : goodB W H xs = true
  rotate_left
  · have hg' := not_false hg
    rw [lensX_no (byB_no0 hg'), byB_no0 hg']
    go_enter Try.func40, Try.ntmps40
    go_wp2_with fail
    refine (implCountColors_any W H A n c B xs _ h' (by simp; omega)).mono ?_
    rw [hg']
    rintro e w1 ⟨A1, c1, rfl, own, hb⟩
    replace y0 := y0.all hb
    replace hb0 := Lib.hid (hb0.out.trans (hb.mono (by simp; omega)))
    clear hb
    go_wp2
    go_ret2
    exact ⟨none, 0, rfl, Own.nil _ _, hb0.out⟩
  by_cases hy : goodY s = true
  rotate_left
  · have hy' := not_false hy
    rw [lensX_no (byB_no1 hy'), byB_no1 hy']
    go_enter Try.func40, Try.ntmps40
    go_wp2_with fail
    refine (implCountColors_any W H A n c B xs _ h' (by simp; omega)).mono ?_
    rw [hg]
    rintro e w1 ⟨A1, c1, rfl, own, hb⟩
    replace y0 := y0.all hb
    replace hb0 := Lib.hid (hb0.out.trans (hb.mono (by simp; omega)))
    clear hb
    have e0 := y0.cell 0
    have e1 := y0.cell 1
    have e2 := y0.cell 2
    have e3 := y0.cell 3
    go_wp2_with fail
    refine (implIsYarn_any s _).mono ?_
    rw [hy']
    rintro e w2 ⟨rfl, hb⟩
    go_wp2
    go_ret2
    exact ⟨none, 0, rfl, Own.nil _ _, hb0.out.trans (hb.mono hb0.out.size)⟩
  rw [show lensX W H xs s = (countL xs).map (lenY s) from if_pos (byB_yes hg hy), byB_yes hg hy]
  obtain ⟨h64, hl1, hcol⟩ := good_bd hg
  obtain rfl := h.len
  obtain ⟨i0, hi, hz0, hz1, hz2⟩ := info_parts info_int
  go_enter Try.func40, Try.ntmps40
  go_wp2_with fail
  refine (implCountColors_any W H A xs.length c B xs _ h' (by simp; omega)).mono ?_
  rw [hg, show countC W H xs = countL xs from if_pos hg]
  rintro e w1 ⟨A1, c1, rfl, own, hb⟩
  replace y0 := y0.all hb
  replace hb0 := Lib.hid (hb0.out.trans (hb.mono (by simp; omega)))
  clear hb
  have hl := countL_len xs
  have hcb := Lib.hid (fun j (hj : j < 6) => countL_bd h64 hj)
  have hr := own.rd
  rw [hl] at hr
  generalize countL xs = zs at *
  have e0 := y0.cell 0
  have e1 := y0.cell 1
  have e2 := y0.cell 2
  have e3 := y0.cell 3
  go_wp2_with fail
  refine (implIsYarn_any s _).mono ?_
  rw [hy]
  rintro e w2 ⟨rfl, hb⟩
  replace hr := hr.all hb (Nat.le_refl _)
  have hz12 : w1.heap.size ≤ w2.heap.size := hb.size
  have hz01 : w.heap.size ≤ w1.heap.size := hb0.out.size
  replace hb0 := Lib.hid (hb0.out.trans (hb.mono hz01))
  have hz02 : w.heap.size ≤ w2.heap.size := hb0.out.size
  clear hb own e0 e1 e2 e3
  generalize w1.heap.size = P at *
  go_wp2_with (at_make; refine wpList_make_full _ rfl _ _ 31 rfl w.heap.size 3 i0 (.int .i64 0) 1 Try.underlying31 hi hz0 hz1 _ _ _ _ 6 rfl rfl rfl rfl (by rw [hz2]; omega) (by unfold maxLen; omega) (by omega) ?_)
  intro w3 hown0 hg0
  replace hr := hr.mark hg0 (fun k hk => by cases hk) hz12
  replace hb0 := Lib.hid (hb0.out.grown hg0 hz02 (fun k hk => by cases hk))
  generalize w2.heap.size = N at *
  clear hg0 h' x0 y0
  go_wp2
  go_loopw [30] (fun i wr => ∃ (k : Nat) (vs : List Int), k ≤ 6 ∧ i = .int .i64 k ∧ vs.length = 6 ∧ Hid (vs.take k = (zs.map (lenY s)).take k) ∧ wr.ownsRow w.heap.size 3 1 (.slice (some ⟨N, 0, none⟩) 6 6) 6 (vs.map (Value.int .i64)) ∧ Rd wr P A1 6 c1 zs ∧ Hid (Below w.heap.size w wr))
    (fun i _ => 6 - (intOf i).toNat)
  case atStart => exact ⟨0, List.replicate 6 0, by omega, rfl, by simp, by simp [Hid], by simpa [toList_madeCells_one, List.map_replicate] using hown0, hr, hb0⟩
  case round =>
    clear hown0 hr hb0
    obtain ⟨k, vs, hk, rfl, hvl, HT, hown, hr, HB⟩ := hrel
    have HVL := Lib.hid hvl
    by_cases hlt : k < 6
    · obtain ⟨b, off, x, rfl, hbP, hcx, _, _, HXx⟩ := hr.at hlt
      have hxb := hcb.out k hlt
      rw [HXx.out] at hxb
      have HN := Lib.hid (map_at (g := lenY s) (by rw [hl]; exact hlt) HXx.out)
      have HS := Lib.hid (set_step (by rw [HVL.out, List.length_map, hl]) (by rw [List.length_map, hl]; exact hlt) HT.out HN.out)
      have HC := Lib.hid (fun wq => lengthFor_any s x wq hy hxb.1 (by omega))
      have hNw := (hown.lt N rfl).2
      have hwz := HB.out.size
      have hki : (0 : Int) ≤ (k : Int) := by omega
      have hkn : (k : Int) < 6 := by omega
      clear HT HXx hvl
      generalize lenY s x = y at *
      go_wp2_with fail
      refine (HC.out _).mono ?_
      rintro e w4 ⟨rfl, hb⟩
      have hz4 : wr.heap.size ≤ w4.heap.size := hb.size
      replace hown := row_all hown hb
      replace hr := hr.all hb (by omega)
      replace HB := Lib.hid (HB.out.trans (hb.mono hwz))
      obtain ⟨v, hv⟩ : ∃ v, w4.cell? ⟨N, k, none⟩ = some v := ⟨.int .i64 (vs.getD k 0), by have := HVL.out; rw [hown.cellAt k (by omega), List.getElem?_map, List.getElem?_eq_getElem (by omega), getD_at (by omega)]; rfl⟩
      have hf := hown.frozenAt k
      have HQ := hown.stored k (.int .i64 y)
      clear hb hcx
      go_wp2
      go_roundw
      case rel => exact ⟨k + 1, vs.set k y, by omega, by go_num, by rw [List.length_set]; exact HVL.out, HS, by rw [List.map_set]; exact HQ.1, hr.mark HQ.2 (fun j hj => by cases hj; omega) (by omega), Lib.hid (HB.out.setCell (p := ⟨N, k, none⟩) (by show w.heap.size ≤ N; omega) _)⟩
      case measure => simp [intOf]; omega
    · have HE : vs = zs.map (lenY s) := by
        have := HT.out
        rwa [List.take_of_length_le (by omega), List.take_of_length_le (by rw [List.length_map]; omega)] at this
      have hml : (zs.map (lenY s)).length = 6 := by rw [List.length_map, hl]
      go_wp2
      go_ret2
      exact ⟨some ⟨N, 0, none⟩, 6, by rw [hml]; rfl, ⟨by rw [hml, ← HE]; exact hown, map_fits fun j hj => by
        have hj6 : j < 6 := by omega
        have h1 := hcb.out j hj6
        have := lenY_bd hy h1.1 (by omega)
        exact ⟨by omega, by omega⟩⟩, HB.out⟩
set_option maxRecDepth 100000 in
set_option maxHeartbeats 4000000 in
theorem neededB_any (W H : Int) (A : Option Addr) (n c B : Nat) (xs : List Int) (s : YarnR) (w : World) (h : Rd w B A n c xs) (hB : B ≤ w.heap.size) :
    Calls Try.prog 40 #[chartV W H (.slice A n c), .agg #[.int .i64 s.f0, .int .i64 s.f1, .int .i64 s.f2, .int .i64 s.f3], .func (.func 41) #[.agg #[.int .i64 s.f0, .int .i64 s.f1, .int .i64 s.f2, .int .i64 s.f3]] #[]] w (OutInts w (ballsX W H xs s) (byB W H xs s)) := by
  have hb0 := Lib.hid (show Below w.heap.size w ((w.alloc (.cells #[.int .i64 W, .int .i64 H, .slice A n c] 33)).alloc (.cells #[.int .i64 s.f0, .int .i64 s.f1, .int .i64 s.f2, .int .i64 s.f3] 25)) from ((Below.refl _ _).alloc (Nat.le_refl _) _).alloc (by simp) _)
  have h' := (h.alloc hB (.cells #[.int .i64 W, .int .i64 H, .slice A n c] 33)).alloc (by simp; omega) (.cells #[.int .i64 s.f0, .int .i64 s.f1, .int .i64 s.f2, .int .i64 s.f3] 25)
  have x0 := (Blk.new w #[.int .i64 W, .int .i64 H, .slice A n c] 33).alloc (.cells #[.int .i64 s.f0, .int .i64 s.f1, .int .i64 s.f2, .int .i64 s.f3] 25)
  have y0 := (Blk.new (w.alloc (.cells #[.int .i64 W, .int .i64 H, .slice A n c] 33)) #[.int .i64 s.f0, .int .i64 s.f1, .int .i64 s.f2, .int .i64 s.f3] 25).at_ (q := w.heap.size + 1) (by simp)
  by_cases hg : goodB W H xs = true
  rotate_left
  · have hg' := not_false hg
    rw [ballsX_no (byB_no0 hg'), byB_no0 hg']
    go_enter Try.func40, Try.ntmps40
    go_wp2_with fail
    refine (implCountColors_any W H A n c B xs _ h' (by simp; omega)).mono ?_
    rw [hg']
    rintro e w1 ⟨A1, c1, rfl, own, hb⟩
    replace y0 := y0.all hb
    replace hb0 := Lib.hid (hb0.out.trans (hb.mono (by simp; omega)))
    clear hb
    go_wp2
    go_ret2
    exact ⟨none, 0, rfl, Own.nil _ _, hb0.out⟩
  by_cases hy : goodY s = true
  rotate_left
  · have hy' := not_false hy
    rw [ballsX_no (byB_no1 hy'), byB_no1 hy']
    go_enter Try.func40, Try.ntmps40
    go_wp2_with fail
    refine (implCountColors_any W H A n c B xs _ h' (by simp; omega)).mono ?_
    rw [hg]
    rintro e w1 ⟨A1, c1, rfl, own, hb⟩
    replace y0 := y0.all hb
    replace hb0 := Lib.hid (hb0.out.trans (hb.mono (by simp; omega)))
    clear hb
    have e0 := y0.cell 0
    have e1 := y0.cell 1
    have e2 := y0.cell 2
    have e3 := y0.cell 3
    go_wp2_with fail
    refine (implIsYarn_any s _).mono ?_
    rw [hy']
    rintro e w2 ⟨rfl, hb⟩
    go_wp2
    go_ret2
    exact ⟨none, 0, rfl, Own.nil _ _, hb0.out.trans (hb.mono hb0.out.size)⟩
  rw [show ballsX W H xs s = (countL xs).map (ballsY s) from if_pos (byB_yes hg hy), byB_yes hg hy]
  obtain ⟨h64, hl1, hcol⟩ := good_bd hg
  obtain rfl := h.len
  obtain ⟨i0, hi, hz0, hz1, hz2⟩ := info_parts info_int
  go_enter Try.func40, Try.ntmps40
  go_wp2_with fail
  refine (implCountColors_any W H A xs.length c B xs _ h' (by simp; omega)).mono ?_
  rw [hg, show countC W H xs = countL xs from if_pos hg]
  rintro e w1 ⟨A1, c1, rfl, own, hb⟩
  replace y0 := y0.all hb
  replace hb0 := Lib.hid (hb0.out.trans (hb.mono (by simp; omega)))
  clear hb
  have hl := countL_len xs
  have hcb := Lib.hid (fun j (hj : j < 6) => countL_bd h64 hj)
  have hr := own.rd
  rw [hl] at hr
  generalize countL xs = zs at *
  have e0 := y0.cell 0
  have e1 := y0.cell 1
  have e2 := y0.cell 2
  have e3 := y0.cell 3
  go_wp2_with fail
  refine (implIsYarn_any s _).mono ?_
  rw [hy]
  rintro e w2 ⟨rfl, hb⟩
  replace hr := hr.all hb (Nat.le_refl _)
  have hz12 : w1.heap.size ≤ w2.heap.size := hb.size
  have hz01 : w.heap.size ≤ w1.heap.size := hb0.out.size
  replace hb0 := Lib.hid (hb0.out.trans (hb.mono hz01))
  have hz02 : w.heap.size ≤ w2.heap.size := hb0.out.size
  clear hb own e0 e1 e2 e3
  generalize w1.heap.size = P at *
  go_wp2_with (at_make; refine wpList_make_full _ rfl _ _ 31 rfl w.heap.size 3 i0 (.int .i64 0) 1 Try.underlying31 hi hz0 hz1 _ _ _ _ 6 rfl rfl rfl rfl (by rw [hz2]; omega) (by unfold maxLen; omega) (by omega) ?_)
  intro w3 hown0 hg0
  replace hr := hr.mark hg0 (fun k hk => by cases hk) hz12
  replace hb0 := Lib.hid (hb0.out.grown hg0 hz02 (fun k hk => by cases hk))
  generalize w2.heap.size = N at *
  clear hg0 h' x0 y0
  go_wp2
  go_loopw [30] (fun i wr => ∃ (k : Nat) (vs : List Int), k ≤ 6 ∧ i = .int .i64 k ∧ vs.length = 6 ∧ Hid (vs.take k = (zs.map (ballsY s)).take k) ∧ wr.ownsRow w.heap.size 3 1 (.slice (some ⟨N, 0, none⟩) 6 6) 6 (vs.map (Value.int .i64)) ∧ Rd wr P A1 6 c1 zs ∧ Hid (Below w.heap.size w wr))
    (fun i _ => 6 - (intOf i).toNat)
  case atStart => exact ⟨0, List.replicate 6 0, by omega, rfl, by simp, by simp [Hid], by simpa [toList_madeCells_one, List.map_replicate] using hown0, hr, hb0⟩
  case round =>
    clear hown0 hr hb0
    obtain ⟨k, vs, hk, rfl, hvl, HT, hown, hr, HB⟩ := hrel
    have HVL := Lib.hid hvl
    by_cases hlt : k < 6
    · obtain ⟨b, off, x, rfl, hbP, hcx, _, _, HXx⟩ := hr.at hlt
      have hxb := hcb.out k hlt
      rw [HXx.out] at hxb
      have HN := Lib.hid (map_at (g := ballsY s) (by rw [hl]; exact hlt) HXx.out)
      have HS := Lib.hid (set_step (by rw [HVL.out, List.length_map, hl]) (by rw [List.length_map, hl]; exact hlt) HT.out HN.out)
      have HC := Lib.hid (fun wq => ballsFor_any s x wq hy hxb.1 (by omega))
      have hNw := (hown.lt N rfl).2
      have hwz := HB.out.size
      have hki : (0 : Int) ≤ (k : Int) := by omega
      have hkn : (k : Int) < 6 := by omega
      clear HT HXx hvl
      generalize ballsY s x = y at *
      go_wp2_with fail
      refine (HC.out _).mono ?_
      rintro e w4 ⟨rfl, hb⟩
      have hz4 : wr.heap.size ≤ w4.heap.size := hb.size
      replace hown := row_all hown hb
      replace hr := hr.all hb (by omega)
      replace HB := Lib.hid (HB.out.trans (hb.mono hwz))
      obtain ⟨v, hv⟩ : ∃ v, w4.cell? ⟨N, k, none⟩ = some v := ⟨.int .i64 (vs.getD k 0), by have := HVL.out; rw [hown.cellAt k (by omega), List.getElem?_map, List.getElem?_eq_getElem (by omega), getD_at (by omega)]; rfl⟩
      have hf := hown.frozenAt k
      have HQ := hown.stored k (.int .i64 y)
      clear hb hcx
      go_wp2
      go_roundw
      case rel => exact ⟨k + 1, vs.set k y, by omega, by go_num, by rw [List.length_set]; exact HVL.out, HS, by rw [List.map_set]; exact HQ.1, hr.mark HQ.2 (fun j hj => by cases hj; omega) (by omega), Lib.hid (HB.out.setCell (p := ⟨N, k, none⟩) (by show w.heap.size ≤ N; omega) _)⟩
      case measure => simp [intOf]; omega
    · have HE : vs = zs.map (ballsY s) := by
        have := HT.out
        rwa [List.take_of_length_le (by omega), List.take_of_length_le (by rw [List.length_map]; omega)] at this
      have hml : (zs.map (ballsY s)).length = 6 := by rw [List.length_map, hl]
      go_wp2
      go_ret2
      exact ⟨some ⟨N, 0, none⟩, 6, by rw [hml]; rfl, ⟨by rw [hml, ← HE]; exact hown, map_fits fun j hj => by
        have hj6 : j < 6 := by omega
        have h1 := hcb.out j hj6
        have := ballsY_bd hy h1.1 (by omega)
        exact ⟨by omega, by omega⟩⟩, HB.out⟩
set_option maxRecDepth 100000 in
set_option maxHeartbeats 1000000 in
theorem implYarnByColor_any (W H : Int) (A : Option Addr) (n c B : Nat) (xs : List Int) (s : YarnR) (w : World) (h : Rd w B A n c xs) (hB : B ≤ w.heap.size) :
    Calls Try.prog 16 #[chartV W H (.slice A n c), .agg #[.int .i64 s.f0, .int .i64 s.f1, .int .i64 s.f2, .int .i64 s.f3]] w (OutInts w (lensX W H xs s) (byB W H xs s)) := by
  have hb0 := Lib.hid (show Below w.heap.size w ((w.alloc (.cells #[.int .i64 W, .int .i64 H, .slice A n c] 33)).alloc (.cells #[.int .i64 s.f0, .int .i64 s.f1, .int .i64 s.f2, .int .i64 s.f3] 25)) from ((Below.refl _ _).alloc (Nat.le_refl _) _).alloc (by simp) _)
  have h' := (h.alloc hB (.cells #[.int .i64 W, .int .i64 H, .slice A n c] 33)).alloc (by simp; omega) (.cells #[.int .i64 s.f0, .int .i64 s.f1, .int .i64 s.f2, .int .i64 s.f3] 25)
  have x0 := (Blk.new w #[.int .i64 W, .int .i64 H, .slice A n c] 33).alloc (.cells #[.int .i64 s.f0, .int .i64 s.f1, .int .i64 s.f2, .int .i64 s.f3] 25)
  have y0 := (Blk.new (w.alloc (.cells #[.int .i64 W, .int .i64 H, .slice A n c] 33)) #[.int .i64 s.f0, .int .i64 s.f1, .int .i64 s.f2, .int .i64 s.f3] 25).at_ (q := w.heap.size + 1) (by simp)
  go_enter Try.func16, Try.ntmps16
  go_wp2_with fail
  refine (neededL_any W H A n c B xs s _ h' (by simp; omega)).mono ?_
  rintro e w1 ⟨A1, c1, rfl, own, hb⟩
  go_wp2
  go_ret2
  exact ⟨A1, c1, rfl, own.mono (by simp; omega), hb0.out.trans (hb.mono (by simp; omega))⟩
set_option maxRecDepth 100000 in
set_option maxHeartbeats 1000000 in
theorem implBallsByColor_any (W H : Int) (A : Option Addr) (n c B : Nat) (xs : List Int) (s : YarnR) (w : World) (h : Rd w B A n c xs) (hB : B ≤ w.heap.size) :
    Calls Try.prog 13 #[chartV W H (.slice A n c), .agg #[.int .i64 s.f0, .int .i64 s.f1, .int .i64 s.f2, .int .i64 s.f3]] w (OutInts w (ballsX W H xs s) (byB W H xs s)) := by
  have hb0 := Lib.hid (show Below w.heap.size w ((w.alloc (.cells #[.int .i64 W, .int .i64 H, .slice A n c] 33)).alloc (.cells #[.int .i64 s.f0, .int .i64 s.f1, .int .i64 s.f2, .int .i64 s.f3] 25)) from ((Below.refl _ _).alloc (Nat.le_refl _) _).alloc (by simp) _)
  have h' := (h.alloc hB (.cells #[.int .i64 W, .int .i64 H, .slice A n c] 33)).alloc (by simp; omega) (.cells #[.int .i64 s.f0, .int .i64 s.f1, .int .i64 s.f2, .int .i64 s.f3] 25)
  have x0 := (Blk.new w #[.int .i64 W, .int .i64 H, .slice A n c] 33).alloc (.cells #[.int .i64 s.f0, .int .i64 s.f1, .int .i64 s.f2, .int .i64 s.f3] 25)
  have y0 := (Blk.new (w.alloc (.cells #[.int .i64 W, .int .i64 H, .slice A n c] 33)) #[.int .i64 s.f0, .int .i64 s.f1, .int .i64 s.f2, .int .i64 s.f3] 25).at_ (q := w.heap.size + 1) (by simp)
  go_enter Try.func13, Try.ntmps13
  go_wp2_with fail
  refine (neededB_any W H A n c B xs s _ h' (by simp; omega)).mono ?_
  rintro e w1 ⟨A1, c1, rfl, own, hb⟩
  go_wp2
  go_ret2
  exact ⟨A1, c1, rfl, own.mono (by simp; omega), hb0.out.trans (hb.mono (by simp; omega))⟩
end Go.Proofs.Ytndoianocmekmaa
