/- The walks of the model's YarnByColor and BallsByColor. No condition. -/
import Derived.Test.YtndoianocmekmaaHungry
import Derived.Test.YtndoianocmekmaaYarn
import Derived.Test.YtndoianocmekmaaByMath
import Derived.Test.YtndoianocmekmaaStepZ
namespace Go.Proofs.Ytndoianocmekmaa
open Go.RowKit

theorem map_len6 {g : Int → Int} {zs : List Int} {k : Nat} (h : zs.length = 6) (hk : k ≤ 6) : ((zs.map g).take k).length = k := by rw [List.length_take, List.length_map]; omega
set_option maxRecDepth 100000 in
set_option maxHeartbeats 4000000 in
theorem specYarnByColor_any (W H : Int) (A : Option Addr) (n c B : Nat) (xs : List Int) (s : YarnR) (w : World) (h : Rd w B A n c xs) (hB : B ≤ w.heap.size) :
    Calls Try.prog 17 #[chartV W H (.slice A n c), .agg #[.int .i64 s.f0, .int .i64 s.f1, .int .i64 s.f2, .int .i64 s.f3]] w (OutInts w (lensX W H xs s) (byB W H xs s)) := by
  have hb0 := Lib.hid (show Below w.heap.size w (((w.alloc (.cells #[.int .i64 W, .int .i64 H, .slice A n c] 33)).alloc (.cells #[.int .i64 s.f0, .int .i64 s.f1, .int .i64 s.f2, .int .i64 s.f3] 25)).alloc (.cells #[] 3)) from (((Below.refl _ _).alloc (Nat.le_refl _) _).alloc (by simp) _).alloc (by simp; omega) _)
  have h' := ((h.alloc hB (.cells #[.int .i64 W, .int .i64 H, .slice A n c] 33)).alloc (by simp; omega) (.cells #[.int .i64 s.f0, .int .i64 s.f1, .int .i64 s.f2, .int .i64 s.f3] 25)).alloc (by simp; omega) (.cells #[] 3)
  have x0 := ((Blk.new w #[.int .i64 W, .int .i64 H, .slice A n c] 33).alloc (.cells #[.int .i64 s.f0, .int .i64 s.f1, .int .i64 s.f2, .int .i64 s.f3] 25)).alloc (.cells #[] 3)
  have y0 := ((Blk.new (w.alloc (.cells #[.int .i64 W, .int .i64 H, .slice A n c] 33)) #[.int .i64 s.f0, .int .i64 s.f1, .int .i64 s.f2, .int .i64 s.f3] 25).alloc (.cells #[] 3)).at_ (q := w.heap.size + 1) (by simp)
  have o0 : Own (((w.alloc (.cells #[.int .i64 W, .int .i64 H, .slice A n c] 33)).alloc (.cells #[.int .i64 s.f0, .int .i64 s.f1, .int .i64 s.f2, .int .i64 s.f3] 25)).alloc (.cells #[] 3)) w.heap.size (.slice (some ⟨w.heap.size + 1 + 1, 0, none⟩) 0 0) [] := by
    have := Own.empty (w := (w.alloc (.cells #[.int .i64 W, .int .i64 H, .slice A n c] 33)).alloc (.cells #[.int .i64 s.f0, .int .i64 s.f1, .int .i64 s.f2, .int .i64 s.f3] 25)) (lo := w.heap.size) (by simp; omega)
    simpa using this
  by_cases hg : goodB W H xs = true
  rotate_left
  · have hg' := not_false hg
    rw [lensX_no (byB_no0 hg'), byB_no0 hg']
    go_enter Try.func17, Try.ntmps17
    go_wp2_with fail
    refine (l2Good_any W H A n c B xs _ h' (by simp; omega)).mono ?_
    rw [hg']
    rintro e w1 ⟨rfl, hb⟩
    replace h' := h'.all hb (by simp; omega)
    replace x0 := x0.all hb
    replace y0 := y0.all hb
    replace o0 := o0.all hb
    replace hb0 := Lib.hid (hb0.out.trans (hb.mono (by simp; omega)))
    clear hb
    go_wp2
    go_ret2
    exact ⟨_, 0, rfl, o0, hb0.out⟩
  by_cases hy : goodY s = true
  rotate_left
  · have hy' := not_false hy
    rw [lensX_no (byB_no1 hy'), byB_no1 hy']
    go_enter Try.func17, Try.ntmps17
    go_wp2_with fail
    refine (l2Good_any W H A n c B xs _ h' (by simp; omega)).mono ?_
    rw [hg]
    rintro e w1 ⟨rfl, hb⟩
    replace h' := h'.all hb (by simp; omega)
    replace x0 := x0.all hb
    replace y0 := y0.all hb
    replace o0 := o0.all hb
    replace hb0 := Lib.hid (hb0.out.trans (hb.mono (by simp; omega)))
    clear hb
    have e0 := y0.cell 0
    have e1 := y0.cell 1
    have e2 := y0.cell 2
    have e3 := y0.cell 3
    go_wp2_with fail
    refine (l10Good_any s _).mono ?_
    rw [hy']
    rintro e w2 ⟨rfl, hb⟩
    clear e0 e1 e2 e3
    replace h' := h'.all hb (by have := hb0.out.size; omega)
    replace x0 := x0.all hb
    replace y0 := y0.all hb
    replace o0 := o0.all hb
    replace hb0 := Lib.hid (hb0.out.trans (hb.mono hb0.out.size))
    clear hb
    go_wp2
    go_ret2
    exact ⟨_, 0, rfl, o0, hb0.out⟩
  rw [show lensX W H xs s = (countL xs).map (lenY s) from if_pos (byB_yes hg hy), byB_yes hg hy]
  obtain ⟨h64, hl1, hcol⟩ := good_bd hg
  obtain rfl := h.len
  go_enter Try.func17, Try.ntmps17
  go_wp2_with fail
  refine (l2Good_any W H A xs.length c B xs _ h' (by simp; omega)).mono ?_
  rw [hg]
  rintro e w1 ⟨rfl, hb⟩
  replace h' := h'.all hb (by simp; omega)
  replace x0 := x0.all hb
  replace y0 := y0.all hb
  replace o0 := o0.all hb
  replace hb0 := Lib.hid (hb0.out.trans (hb.mono (by simp; omega)))
  clear hb
  have e0 := y0.cell 0
  have e1 := y0.cell 1
  have e2 := y0.cell 2
  have e3 := y0.cell 3
  go_wp2_with fail
  refine (l10Good_any s _).mono ?_
  rw [hy]
  rintro e w2 ⟨rfl, hb⟩
  clear e0 e1 e2 e3
  replace h' := h'.all hb (by have := hb0.out.size; omega)
  replace x0 := x0.all hb
  replace y0 := y0.all hb
  replace o0 := o0.all hb
  replace hb0 := Lib.hid (hb0.out.trans (hb.mono hb0.out.size))
  clear hb
  have q0 := x0.cell 0
  have q1 := x0.cell 1
  have q2 := x0.cell 2
  go_wp2_with fail
  refine (l10Counts_any W H A xs.length c B xs _ h' (by have := hb0.out.size; omega)).mono ?_
  rw [show countC W H xs = countL xs from if_pos hg]
  rintro e w3 ⟨A1, c1, rfl, own, hb⟩
  clear q0 q1 q2
  replace y0 := y0.all hb
  replace o0 := o0.all hb
  replace hb0 := Lib.hid (hb0.out.trans (hb.mono hb0.out.size))
  clear hb
  have hl := countL_len xs
  have hcb := Lib.hid (fun j (hj : j < 6) => countL_bd h64 hj)
  have hr := own.rd
  rw [hl] at hr
  generalize countL xs = zs at *
  have hz0 : w.heap.size ≤ w3.heap.size := hb0.out.size
  have hzy : w.heap.size + 1 < w3.heap.size := y0.lt
  have oz : OwnZ w3 w.heap.size w3.heap.size (.slice (some ⟨w.heap.size + 1 + 1, 0, none⟩) 0 0) [] := .zero o0
  have hz3 : w3.heap.size ≤ w3.heap.size := Nat.le_refl _
  clear own h' x0 o0
  obtain ⟨P, hP⟩ : ∃ P, w3.heap.size = P := ⟨_, rfl⟩
  rw [hP] at hr hz0 hzy oz hz3
  go_wp2
  go_loopw [6, 8] (fun s6 s8 wr => ∃ (k : Nat) (A' : Option Addr) (c' : Nat), k ≤ 6 ∧ s6 = .slice A' k c' ∧ s8 = .int .i64 k ∧ OwnZ wr w.heap.size P (.slice A' k c') ((zs.map (lenY s)).take k) ∧ Rd wr P A1 6 c1 zs ∧ Blk wr (w.heap.size + 1) 25 #[.int .i64 s.f0, .int .i64 s.f1, .int .i64 s.f2, .int .i64 s.f3] ∧ P ≤ wr.heap.size ∧ Hid (Below w.heap.size w wr)) (fun _ s8 _ => 6 - (intOf s8).toNat)
  case atStart => exact ⟨0, _, _, by omega, rfl, rfl, oz, hr, y0, by omega, hb0⟩
  case round =>
    clear hr y0 hb0 oz hz3 hP
    obtain ⟨k, A', c', hk, rfl, rfl, oz, hr, y0, hzr, HB⟩ := hrel
    by_cases hlt : k < 6
    · obtain ⟨b, off, x, rfl, hbP, hcx, _, _, HXx⟩ := hr.at hlt
      have hxb := hcb.out k hlt
      rw [HXx.out] at hxb
      have HN := Lib.hid (map_at (g := lenY s) (by rw [hl]; exact hlt) HXx.out)
      have HC := Lib.hid (fun wq => l10For_any s x wq hy hxb.1 (by omega))
      have hyb := lenY_bd hy hxb.1 (show x ≤ 100000 by omega)
      have HTL := Lib.hid (map_len6 (g := lenY s) (k := k) hl (by omega))
      have hwz := HB.out.size
      have hki : (0 : Int) ≤ (k : Int) := by omega
      have hkn : (k : Int) < 6 := by omega
      have hyI : I64 (lenY s x) := ⟨by omega, by omega⟩
      clear HXx
      generalize lenY s x = y at *
      generalize (zs.map (lenY s)).take k = T at *
      have hx' : wr.drew.cell? ⟨b, off + k, none⟩ = some (.int .i64 x) := hcx
      have e0 := y0.cell 0
      have e1 := y0.cell 1
      have e2 := y0.cell 2
      have e3 := y0.cell 3
      go_wp2
      go_region_law (first | (refine step_append_z wa rfl (.tmp 27) (.tmp 34) 31 rfl Try.underlying31 info_int w.heap.size P k _ T y HTL.out rfl rfl oza (by omega) hyI hz0 hza ?_; intro A5 c5 w5 row o5 hrow hg5; have y5 := ya.mark hg5 (fun j hj => by have := hrow j hj; omega); have r5 := ra.mark hg5 hrow hza; have HB5 := Lib.hid (HBa.out.grown hg5 (by omega) (fun j hj => by have := hrow j hj; omega)); have hz5 : P ≤ w5.heap.size := Nat.le_trans hza hg5.size) | (go_simp; go_at_call 37; (with_reducible refine (HC.out _).mono ?_); rintro e wa ⟨rfl, hba⟩; have hb6 : Below wr.heap.size wr wa := below_drew hba; have oza := oz.all hb6; have ya := y0.all hb6; have ra := hr.all hb6 hzr; have HBa := Lib.hid (HB.out.trans (hb6.mono hwz)); have hza : P ≤ wa.heap.size := Nat.le_trans hzr hb6.size))
      all_goals
        rw [← HN.out] at o5
        go_wp2
        go_roundw
        case rel => exact ⟨k + 1, A5, c5, by omega, rfl, by go_num, o5, r5, y5, hz5, HB5⟩
        case measure => simp [intOf]; omega
    · obtain rfl : k = 6 := by omega
      have hml : (zs.map (lenY s)).length = 6 := by rw [List.length_map, hl]
      rw [List.take_of_length_le (by omega)] at oz
      go_wp2
      go_ret2
      exact ⟨A', c', by rw [hml]; rfl, by rw [hml]; exact oz.1, HB.out⟩
set_option maxRecDepth 100000 in
set_option maxHeartbeats 4000000 in
theorem specBallsByColor_any (W H : Int) (A : Option Addr) (n c B : Nat) (xs : List Int) (s : YarnR) (w : World) (h : Rd w B A n c xs) (hB : B ≤ w.heap.size) :
    Calls Try.prog 14 #[chartV W H (.slice A n c), .agg #[.int .i64 s.f0, .int .i64 s.f1, .int .i64 s.f2, .int .i64 s.f3]] w (OutInts w (ballsX W H xs s) (byB W H xs s)) := by
  have hb0 := Lib.hid (show Below w.heap.size w (((w.alloc (.cells #[.int .i64 W, .int .i64 H, .slice A n c] 33)).alloc (.cells #[.int .i64 s.f0, .int .i64 s.f1, .int .i64 s.f2, .int .i64 s.f3] 25)).alloc (.cells #[] 3)) from (((Below.refl _ _).alloc (Nat.le_refl _) _).alloc (by simp) _).alloc (by simp; omega) _)
  have h' := ((h.alloc hB (.cells #[.int .i64 W, .int .i64 H, .slice A n c] 33)).alloc (by simp; omega) (.cells #[.int .i64 s.f0, .int .i64 s.f1, .int .i64 s.f2, .int .i64 s.f3] 25)).alloc (by simp; omega) (.cells #[] 3)
  have x0 := ((Blk.new w #[.int .i64 W, .int .i64 H, .slice A n c] 33).alloc (.cells #[.int .i64 s.f0, .int .i64 s.f1, .int .i64 s.f2, .int .i64 s.f3] 25)).alloc (.cells #[] 3)
  have y0 := ((Blk.new (w.alloc (.cells #[.int .i64 W, .int .i64 H, .slice A n c] 33)) #[.int .i64 s.f0, .int .i64 s.f1, .int .i64 s.f2, .int .i64 s.f3] 25).alloc (.cells #[] 3)).at_ (q := w.heap.size + 1) (by simp)
  have o0 : Own (((w.alloc (.cells #[.int .i64 W, .int .i64 H, .slice A n c] 33)).alloc (.cells #[.int .i64 s.f0, .int .i64 s.f1, .int .i64 s.f2, .int .i64 s.f3] 25)).alloc (.cells #[] 3)) w.heap.size (.slice (some ⟨w.heap.size + 1 + 1, 0, none⟩) 0 0) [] := by
    have := Own.empty (w := (w.alloc (.cells #[.int .i64 W, .int .i64 H, .slice A n c] 33)).alloc (.cells #[.int .i64 s.f0, .int .i64 s.f1, .int .i64 s.f2, .int .i64 s.f3] 25)) (lo := w.heap.size) (by simp; omega)
    simpa using this
  by_cases hg : byB W H xs s = true
  rotate_left
  · have hg' := not_false hg
    rw [ballsX_no hg', hg']
    go_enter Try.func14, Try.ntmps14
    go_wp2_with fail
    refine (specYarnByColor_any W H A n c B xs s _ h' (by simp; omega)).mono ?_
    rw [hg']
    rintro e w3 ⟨A1, c1, rfl, own, hb⟩
    replace o0 := o0.all hb
    replace hb0 := Lib.hid (hb0.out.trans (hb.mono (by simp; omega)))
    clear hb
    go_wp2
    go_ret2
    exact ⟨_, 0, rfl, o0, hb0.out⟩
  have hg2 := hg
  unfold byB at hg2
  obtain ⟨hgc, hy⟩ := (by simpa using hg2 : goodB W H xs = true ∧ goodY s = true)
  clear hg2
  rw [show ballsX W H xs s = (countL xs).map (ballsY s) from if_pos hg, hg]
  obtain ⟨h64, hl1, hcol⟩ := good_bd hgc
  have hgy := goodY_bd hy
  obtain rfl := h.len
  go_enter Try.func14, Try.ntmps14
  go_wp2_with fail
  refine (specYarnByColor_any W H A xs.length c B xs s _ h' (by simp; omega)).mono ?_
  rw [hg, show lensX W H xs s = (countL xs).map (lenY s) from if_pos hg]
  rintro e w3 ⟨A1, c1, rfl, own, hb⟩
  replace y0 := y0.all hb
  replace o0 := o0.all hb
  replace hb0 := Lib.hid (hb0.out.trans (hb.mono (by simp; omega)))
  clear hb
  have hl := countL_len xs
  have hcb := Lib.hid (fun j (hj : j < 6) => countL_bd h64 hj)
  have hr := own.rd
  have hml : ((countL xs).map (lenY s)).length = 6 := by rw [List.length_map, hl]
  rw [hml] at hr
  generalize countL xs = zs at *
  have hz0 : w.heap.size ≤ w3.heap.size := hb0.out.size
  have hzy : w.heap.size + 1 < w3.heap.size := y0.lt
  have oz : OwnZ w3 w.heap.size w3.heap.size (.slice (some ⟨w.heap.size + 1 + 1, 0, none⟩) 0 0) [] := .zero o0
  have hz3 : w3.heap.size ≤ w3.heap.size := Nat.le_refl _
  clear own h' x0 o0
  obtain ⟨P, hP⟩ : ∃ P, w3.heap.size = P := ⟨_, rfl⟩
  rw [hP] at hr hz0 hzy oz hz3
  have HL := Lib.hid (show ∀ j, j < 6 → (zs.map (lenY s)).getD j 0 = lenY s (zs.getD j 0) from fun j hj => by rw [getD_at (by omega), getD_at (by omega), List.getElem_map])
  obtain ⟨ls, HLS⟩ : ∃ ls, Hid (zs.map (lenY s) = ls) := ⟨_, rfl⟩
  rw [HLS.out] at hr hml HL
  clear HLS
  go_wp2
  go_loopw [6, 9] (fun s6 s8 wr => ∃ (k : Nat) (A' : Option Addr) (c' : Nat), k ≤ 6 ∧ s6 = .slice A' k c' ∧ s8 = .int .i64 k ∧ OwnZ wr w.heap.size P (.slice A' k c') ((zs.map (ballsY s)).take k) ∧ Rd wr P A1 6 c1 ls ∧ Blk wr (w.heap.size + 1) 25 #[.int .i64 s.f0, .int .i64 s.f1, .int .i64 s.f2, .int .i64 s.f3] ∧ P ≤ wr.heap.size ∧ Hid (Below w.heap.size w wr)) (fun _ s8 _ => 6 - (intOf s8).toNat)
  case atStart => exact ⟨0, _, _, by omega, rfl, rfl, oz, hr, y0, by omega, hb0⟩
  case round =>
    clear hr y0 hb0 oz hz3 hP
    obtain ⟨k, A', c', hk, rfl, rfl, oz, hr, y0, hzr, HB⟩ := hrel
    by_cases hlt : k < 6
    · obtain ⟨b, off, x, rfl, hbP, hcx, _, _, HXx⟩ := hr.at hlt
      have hxb := hcb.out k hlt
      have hxe := HL.out k hlt
      rw [HXx.out] at hxe
      obtain ⟨z, HZ⟩ : ∃ z, Hid (zs.getD k 0 = z) := ⟨_, rfl⟩
      rw [HZ.out] at hxb hxe
      have hlb := lenY_bd hy hxb.1 (show z ≤ 100000 by omega)
      rw [← hxe] at hlb
      have HN := Lib.hid (map_at (g := ballsY s) (by rw [hl]; exact hlt) HZ.out)
      have hyb := ballsY_bd hy hxb.1 (show z ≤ 100000 by omega)
      have hdv : (x + (s.f3 * 1000 - 1)) / (s.f3 * 1000) = ballsY s z := by rw [hxe]; rfl
      have HTL := Lib.hid (map_len6 (g := ballsY s) (k := k) hl (by omega))
      have hwz := HB.out.size
      have hki : (0 : Int) ≤ (k : Int) := by omega
      have hkn : (k : Int) < 6 := by omega
      generalize ballsY s z = y at *
      have hyI : I64 y := ⟨by omega, by omega⟩
      clear HXx hxe HZ
      generalize (zs.map (ballsY s)).take k = T at *
      have E1 : IntKind.i64.wrap (1000 * s.f3) = s.f3 * 1000 := by rw [Int.mul_comm]; exact IntWalk.i64_in _ (by omega)
      have E2 : IntKind.i64.wrap (x + s.f3 * 1000) = x + s.f3 * 1000 := IntWalk.i64_in _ (by omega)
      have E3 : IntKind.i64.wrap (x + s.f3 * 1000 - 1) = x + s.f3 * 1000 - 1 := IntWalk.i64_in _ (by omega)
      have E4 : Int.tdiv (x + s.f3 * 1000 - 1) (s.f3 * 1000) = y := by rw [Int.tdiv_eq_ediv_of_nonneg (by omega), ← hdv]; congr 1; omega
      have E5 : IntKind.i64.wrap y = y := IntWalk.i64_in _ (by omega)
      have hne : (s.f3 * 1000 == 0) = false := by simp; omega
      have hne' : ¬ (s.f3 * 1000 = 0) := by omega
      clear hdv hlb
      have oza := oz.drewN 1
      have ya := y0
      have ra := hr.drewN 1
      have HBa := Lib.hid (belowN HB.out 1)
      have e3 := y0.cell 3
      go_wp2
      go_region_law (refine step_append_z wr.drew rfl (.tmp 26) (.tmp 40) 31 rfl Try.underlying31 info_int w.heap.size P k _ T y HTL.out rfl rfl oza (by omega) hyI hz0 hzr ?_; intro A5 c5 w5 row o5 hrow hg5; have y5 : Blk w5 (w.heap.size + 1) 25 #[.int .i64 s.f0, .int .i64 s.f1, .int .i64 s.f2, .int .i64 s.f3] := (Blk.all y0 (low_drewN wr 1)).mark hg5 (fun j hj => by have := hrow j hj; omega); have r5 := ra.mark hg5 hrow hzr; have HB5 := Lib.hid (HBa.out.grown hg5 (by first | omega | exact hwz) (fun j hj => by have := hrow j hj; omega)); have hz5 : P ≤ w5.heap.size := Nat.le_trans hzr hg5.size)
      all_goals
        rw [← HN.out] at o5
        go_wp2
        go_roundw
        case rel => exact ⟨k + 1, A5, c5, by omega, rfl, by go_num, o5, r5, y5, hz5, HB5⟩
        case measure => simp [intOf]; omega
    · obtain rfl : k = 6 := by omega
      have hmb : (zs.map (ballsY s)).length = 6 := by rw [List.length_map, hl]
      rw [List.take_of_length_le (by omega)] at oz
      go_wp2
      go_ret2
      exact ⟨A', c', by rw [hmb]; rfl, by rw [hmb]; exact oz.1, HB.out⟩
end Go.Proofs.Ytndoianocmekmaa
