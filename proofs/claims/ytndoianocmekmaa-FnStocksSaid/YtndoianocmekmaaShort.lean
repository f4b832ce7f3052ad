/- The walks of ShortColors, both texts. No condition. -/
import Derived.Test.YtndoianocmekmaaBy
import Derived.Test.YtndoianocmekmaaByS
import Derived.Test.YtndoianocmekmaaStock
namespace Go.Proofs.Ytndoianocmekmaa
open Go.RowKit

def shortL (ls ss : List Int) (k : Nat) : List Int := ((List.range k).filter fun j => decide (ss.getD j 0 < ls.getD j 0)).map fun j : Nat => (j : Int)
def shortB (W H : Int) (xs : List Int) (s : YarnR) (ss : List Int) : Bool := byB W H xs s && stockB ss
def shortX (W H : Int) (xs : List Int) (s : YarnR) (ss : List Int) : List Int := if shortB W H xs s ss = true then shortL (lensX W H xs s) ss 6 else []
theorem shortL_len (ls ss : List Int) (k : Nat) : (shortL ls ss k).length ≤ k := by
  unfold shortL
  rw [List.length_map]
  have := List.length_filter_le (fun j => decide (ss.getD j 0 < ls.getD j 0)) (List.range k)
  rwa [List.length_range] at this
theorem shortX_len (W H : Int) (xs : List Int) (s : YarnR) (ss : List Int) : (shortX W H xs s ss).length ≤ 1048576 := by
  unfold shortX
  split
  · have := shortL_len (lensX W H xs s) ss 6; omega
  · simp
theorem shortL_yes {ls ss : List Int} {k : Nat} {x y : Int} (hx : ls.getD k 0 = x) (hy : ss.getD k 0 = y) (h : y < x) : shortL ls ss (k + 1) = shortL ls ss k ++ [(k : Int)] := by
  have hd : decide (ss.getD k 0 < ls.getD k 0) = true := by rw [hx, hy]; exact decide_eq_true h
  unfold shortL
  rw [List.range_succ, List.filter_append, List.map_append]
  simp only [List.filter_cons, List.filter_nil, hd, if_true, List.map_cons, List.map_nil]
theorem shortL_no {ls ss : List Int} {k : Nat} {x y : Int} (hx : ls.getD k 0 = x) (hy : ss.getD k 0 = y) (h : ¬ y < x) : shortL ls ss (k + 1) = shortL ls ss k := by
  have hd : decide (ss.getD k 0 < ls.getD k 0) = false := by rw [hx, hy]; exact decide_eq_false h
  unfold shortL
  rw [List.range_succ, List.filter_append, List.map_append]
  simp only [List.filter_cons, List.filter_nil, hd, Bool.false_eq_true, if_false, List.map_nil, List.append_nil]
theorem shortL_fits (ls ss : List Int) (k : Nat) (h : k ≤ 6) : ∀ y ∈ shortL ls ss k, I64 y := by
  intro y hy
  simp only [shortL, List.mem_map, List.mem_filter, List.mem_range] at hy
  obtain ⟨j, ⟨hj, _⟩, rfl⟩ := hy
  exact ⟨by omega, by omega⟩
theorem lensX_six {W H : Int} {xs : List Int} {s : YarnR} (h : byB W H xs s = true) : (lensX W H xs s).length = 6 := by
  rw [show lensX W H xs s = (countL xs).map (lenY s) from if_pos h, List.length_map, countL_len]
set_option maxRecDepth 100000 in
set_option maxHeartbeats 4000000 in
theorem implShortColors_any (W H : Int) (A : Option Addr) (n c B : Nat) (xs : List Int) (s : YarnR) (A2 : Option Addr) (n2 c2 K : Nat) (ss : List Int) (w : World) (h : Rd w B A n c xs) (k : Rd w K A2 n2 c2 ss) (hB : B ≤ w.heap.size) (hK : K ≤ w.heap.size) :
    Calls Try.prog 23 #[chartV W H (.slice A n c), .agg #[.int .i64 s.f0, .int .i64 s.f1, .int .i64 s.f2, .int .i64 s.f3], .slice A2 n2 c2] w (OutInts w (shortX W H xs s ss) (shortB W H xs s ss)) := by
  have hb0 := Lib.hid (show Below w.heap.size w ((w.alloc (.cells #[.int .i64 W, .int .i64 H, .slice A n c] 33)).alloc (.cells #[.int .i64 s.f0, .int .i64 s.f1, .int .i64 s.f2, .int .i64 s.f3] 25)) from ((Below.refl _ _).alloc (Nat.le_refl _) _).alloc (by simp) _)
  have h' := (h.alloc hB (.cells #[.int .i64 W, .int .i64 H, .slice A n c] 33)).alloc (by simp; omega) (.cells #[.int .i64 s.f0, .int .i64 s.f1, .int .i64 s.f2, .int .i64 s.f3] 25)
  have k' := (k.alloc hK (.cells #[.int .i64 W, .int .i64 H, .slice A n c] 33)).alloc (by simp; omega) (.cells #[.int .i64 s.f0, .int .i64 s.f1, .int .i64 s.f2, .int .i64 s.f3] 25)
  by_cases hg : byB W H xs s = true
  rotate_left
  · have hg' := not_false hg
    have hs : shortB W H xs s ss = false := by simp [shortB, hg']
    rw [show shortX W H xs s ss = [] by simp [shortX, hs], hs]
    go_enter Try.func23, Try.ntmps23
    go_wp2_with fail
    refine (implYarnByColor_any W H A n c B xs s _ h' (by simp; omega)).mono ?_
    rw [hg']
    rintro e w1 ⟨A1, c1, rfl, own, hb⟩
    replace k' := k'.all hb (by simp; omega)
    replace hb0 := Lib.hid (hb0.out.trans (hb.mono (by simp; omega)))
    clear hb
    go_wp2
    go_ret2
    exact ⟨none, 0, rfl, Own.nil _ _, hb0.out⟩
  by_cases hc : stockB ss = true
  rotate_left
  · have hc' := not_false hc
    have hs : shortB W H xs s ss = false := by simp [shortB, hc']
    rw [show shortX W H xs s ss = [] by simp [shortX, hs], hs]
    go_enter Try.func23, Try.ntmps23
    go_wp2_with fail
    refine (implYarnByColor_any W H A n c B xs s _ h' (by simp; omega)).mono ?_
    rw [hg]
    rintro e w1 ⟨A1, c1, rfl, own, hb⟩
    replace k' := k'.all hb (by simp; omega)
    replace hb0 := Lib.hid (hb0.out.trans (hb.mono (by simp; omega)))
    clear hb
    go_wp2_with (go_at_call 46; (with_reducible refine (isColorStock_any _ _ _ _ _ _ k').mono ?_); rintro e w' ⟨rfl, rfl⟩)
    go_ret2
    exact ⟨none, 0, rfl, Own.nil _ _, hb0.out⟩
  have hs : shortB W H xs s ss = true := by simp [shortB, hg, hc]
  rw [show shortX W H xs s ss = _ from if_pos hs, hs]
  have hl := lensX_six hg
  obtain ⟨hsl, hsn⟩ := stockB_at hc
  obtain rfl : n2 = 6 := by rw [← k.len]; exact hsl
  go_enter Try.func23, Try.ntmps23
  go_wp2_with fail
  refine (implYarnByColor_any W H A n c B xs s _ h' (by simp; omega)).mono ?_
  rw [hg]
  rintro e w1 ⟨A1, c1, rfl, own, hb⟩
  replace k' := k'.all hb (by simp; omega)
  replace hb0 := Lib.hid (hb0.out.trans (hb.mono (by simp; omega)))
  clear hb
  have hr := own.rd
  rw [hl] at hr
  have hzw := hb0.out.size
  clear own h' h k
  generalize lensX W H xs s = ls at *
  go_wp2_with (go_at_call 46; (with_reducible refine (isColorStock_any _ _ _ _ _ _ k').mono ?_); rintro e w' ⟨rfl, rfl⟩)
  have oz : OwnZ w1 w.heap.size w1.heap.size (.slice (none) 0 0) [] := ⟨Own.nil _ _, .inl (Own.nil _ _)⟩
  have hz0 : w.heap.size ≤ w1.heap.size := hb0.out.size
  have hz3 : w1.heap.size ≤ w1.heap.size := Nat.le_refl _
  have hzK : K ≤ w1.heap.size := by omega
  obtain ⟨P, hP⟩ : ∃ P, w1.heap.size = P := ⟨_, rfl⟩
  rw [hP] at hr hz0 oz hz3 hzK
  go_loopw [10, 28] (fun s10 s28 wr => ∃ (k m : Nat) (A' : Option Addr) (c' : Nat), k ≤ 6 ∧ m ≤ k ∧ Hid ((shortL ls ss k).length = m) ∧ s10 = .slice A' m c' ∧ s28 = .int .i64 k ∧ OwnZ wr w.heap.size P (.slice A' m c') (shortL ls ss k) ∧ Rd wr P A1 6 c1 ls ∧ Rd wr K A2 6 c2 ss ∧ P ≤ wr.heap.size ∧ Hid (Below w.heap.size w wr)) (fun _ s28 _ => 6 - (intOf s28).toNat)
  case atStart => exact ⟨0, 0, _, _, by omega, by omega, Lib.hid rfl, rfl, rfl, oz, hr, k', by omega, hb0⟩
  case round =>
    clear hr hb0 oz hz3 hP k'
    obtain ⟨k, m, A', c', hk, hmk, HM, rfl, rfl, oz, hr, k', hzr, HB⟩ := hrel
    by_cases hlt : k < 6
    · obtain ⟨b, off, x, rfl, hbP, hcx, _, _, HXx⟩ := hr.at hlt
      obtain ⟨b2, off2, y, rfl, hbK, hcy, _, _, HYy⟩ := k'.at hlt
      have hwz := HB.out.size
      have hki : (0 : Int) ≤ (k : Int) := by omega
      have hkn : (k : Int) < 6 := by omega
      by_cases hxy : y < x
      · have HN := Lib.hid (shortL_yes HXx.out HYy.out hxy)
        have hkI : I64 (k : Int) := ⟨by omega, by omega⟩
        have HM2 := Lib.hid (show (shortL ls ss (k + 1)).length = m + 1 by rw [HN.out, List.length_append, HM.out]; rfl)
        clear HXx HYy
        generalize shortL ls ss k = T at *
        go_wp2_with (at_builtin; refine wpList_append_z wr rfl (.tmp 39) (.tmp 41) 31 rfl Try.underlying31 info_int w.heap.size P m _ T (k : Int) HM.out rfl rfl oz (by omega) hkI hz0 hzr ?_)
        intro A5 c5 w5 row o5 hrow hg5
        rw [← HN.out] at o5
        have r5 := hr.mark hg5 hrow hzr
        have k5 := k'.mark hg5 (fun j hj => Nat.le_trans hzK (hrow j hj)) (by omega)
        have HB5 := Lib.hid (HB.out.grown hg5 hwz (fun j hj => Nat.le_trans hz0 (hrow j hj)))
        have hz5 : P ≤ w5.heap.size := Nat.le_trans hzr hg5.size
        go_wp2
        go_roundw
        case rel => exact ⟨k + 1, m + 1, A5, c5, by omega, by omega, HM2, rfl, by go_num, o5, r5, k5, hz5, HB5⟩
        case measure => simp [intOf]; omega
      · have HN := Lib.hid (shortL_no HXx.out HYy.out hxy)
        clear HXx HYy
        rw [← HN.out] at HM oz
        go_wp2
        go_roundw
        case rel => exact ⟨k + 1, m, A', c', by omega, by omega, HM, rfl, by go_num, oz, hr, k', by omega, HB⟩
        case measure => simp [intOf]; omega
    · obtain rfl : k = 6 := by omega
      go_wp2
      go_ret2
      exact ⟨A', c', by rw [HM.out]; rfl, by rw [HM.out]; exact oz.1, HB.out⟩
set_option maxRecDepth 100000 in
set_option maxHeartbeats 4000000 in
theorem specShortColors_any (W H : Int) (A : Option Addr) (n c B : Nat) (xs : List Int) (s : YarnR) (A2 : Option Addr) (n2 c2 K : Nat) (ss : List Int) (w : World) (h : Rd w B A n c xs) (k : Rd w K A2 n2 c2 ss) (hB : B ≤ w.heap.size) (hK : K ≤ w.heap.size) :
    Calls Try.prog 24 #[chartV W H (.slice A n c), .agg #[.int .i64 s.f0, .int .i64 s.f1, .int .i64 s.f2, .int .i64 s.f3], .slice A2 n2 c2] w (OutInts w (shortX W H xs s ss) (shortB W H xs s ss)) := by
  have hb0 := Lib.hid (show Below w.heap.size w (((w.alloc (.cells #[.int .i64 W, .int .i64 H, .slice A n c] 33)).alloc (.cells #[.int .i64 s.f0, .int .i64 s.f1, .int .i64 s.f2, .int .i64 s.f3] 25)).alloc (.cells #[] 3)) from (((Below.refl _ _).alloc (Nat.le_refl _) _).alloc (by simp) _).alloc (by simp; omega) _)
  have h' := ((h.alloc hB (.cells #[.int .i64 W, .int .i64 H, .slice A n c] 33)).alloc (by simp; omega) (.cells #[.int .i64 s.f0, .int .i64 s.f1, .int .i64 s.f2, .int .i64 s.f3] 25)).alloc (by simp; omega) (.cells #[] 3)
  have k' := ((k.alloc hK (.cells #[.int .i64 W, .int .i64 H, .slice A n c] 33)).alloc (by simp; omega) (.cells #[.int .i64 s.f0, .int .i64 s.f1, .int .i64 s.f2, .int .i64 s.f3] 25)).alloc (by simp; omega) (.cells #[] 3)
  have o0 : Own (((w.alloc (.cells #[.int .i64 W, .int .i64 H, .slice A n c] 33)).alloc (.cells #[.int .i64 s.f0, .int .i64 s.f1, .int .i64 s.f2, .int .i64 s.f3] 25)).alloc (.cells #[] 3)) w.heap.size (.slice (some ⟨w.heap.size + 1 + 1, 0, none⟩) 0 0) [] := by
    have := Own.empty (w := (w.alloc (.cells #[.int .i64 W, .int .i64 H, .slice A n c] 33)).alloc (.cells #[.int .i64 s.f0, .int .i64 s.f1, .int .i64 s.f2, .int .i64 s.f3] 25)) (lo := w.heap.size) (by simp; omega)
    simpa using this
  by_cases hg : byB W H xs s = true
  rotate_left
  · have hg' := not_false hg
    have hs : shortB W H xs s ss = false := by simp [shortB, hg']
    rw [show shortX W H xs s ss = [] by simp [shortX, hs], hs]
    go_enter Try.func24, Try.ntmps24
    go_wp2_with fail
    refine (specYarnByColor_any W H A n c B xs s _ h' (by simp; omega)).mono ?_
    rw [hg']
    rintro e w1 ⟨A1, c1, rfl, own, hb⟩
    replace k' := k'.all hb (by simp; omega)
    replace o0 := o0.all hb
    replace hb0 := Lib.hid (hb0.out.trans (hb.mono (by simp; omega)))
    clear hb
    go_wp2
    go_ret2
    exact ⟨_, 0, rfl, o0, hb0.out⟩
  by_cases hc : stockB ss = true
  rotate_left
  · have hc' := not_false hc
    have hs : shortB W H xs s ss = false := by simp [shortB, hc']
    rw [show shortX W H xs s ss = [] by simp [shortX, hs], hs]
    go_enter Try.func24, Try.ntmps24
    go_wp2_with fail
    refine (specYarnByColor_any W H A n c B xs s _ h' (by simp; omega)).mono ?_
    rw [hg]
    rintro e w1 ⟨A1, c1, rfl, own, hb⟩
    replace k' := k'.all hb (by simp; omega)
    replace o0 := o0.all hb
    replace hb0 := Lib.hid (hb0.out.trans (hb.mono (by simp; omega)))
    clear hb
    go_wp2_with (go_at_call 47; (with_reducible refine (l10Stock_any _ _ _ _ _ _ k').mono ?_); rintro e w' ⟨rfl, rfl⟩)
    go_ret2
    exact ⟨_, 0, rfl, o0, hb0.out⟩
  have hs : shortB W H xs s ss = true := by simp [shortB, hg, hc]
  rw [show shortX W H xs s ss = _ from if_pos hs, hs]
  have hl := lensX_six hg
  obtain ⟨hsl, hsn⟩ := stockB_at hc
  obtain rfl : n2 = 6 := by rw [← k.len]; exact hsl
  go_enter Try.func24, Try.ntmps24
  go_wp2_with fail
  refine (specYarnByColor_any W H A n c B xs s _ h' (by simp; omega)).mono ?_
  rw [hg]
  rintro e w1 ⟨A1, c1, rfl, own, hb⟩
  replace k' := k'.all hb (by simp; omega)
  replace o0 := o0.all hb
  replace hb0 := Lib.hid (hb0.out.trans (hb.mono (by simp; omega)))
  clear hb
  have hr := own.rd
  rw [hl] at hr
  have hzw := hb0.out.size
  clear own h' h k
  generalize lensX W H xs s = ls at *
  go_wp2_with (go_at_call 47; (with_reducible refine (l10Stock_any _ _ _ _ _ _ k').mono ?_); rintro e w' ⟨rfl, rfl⟩)
  have oz : OwnZ w1 w.heap.size w1.heap.size (.slice (some ⟨w.heap.size + 1 + 1, 0, none⟩) 0 0) [] := .zero o0
  have hz0 : w.heap.size ≤ w1.heap.size := hb0.out.size
  have hz3 : w1.heap.size ≤ w1.heap.size := Nat.le_refl _
  have hzK : K ≤ w1.heap.size := by omega
  obtain ⟨P, hP⟩ : ∃ P, w1.heap.size = P := ⟨_, rfl⟩
  rw [hP] at hr hz0 oz hz3 hzK
  clear o0
  go_loopw [8, 11] (fun s8 s11 wr => ∃ (k m : Nat) (A' : Option Addr) (c' : Nat), k ≤ 6 ∧ m ≤ k ∧ Hid ((shortL ls ss k).length = m) ∧ s8 = .slice A' m c' ∧ s11 = .int .i64 k ∧ OwnZ wr w.heap.size P (.slice A' m c') (shortL ls ss k) ∧ Rd wr P A1 6 c1 ls ∧ Rd wr K A2 6 c2 ss ∧ P ≤ wr.heap.size ∧ Hid (Below w.heap.size w wr)) (fun _ s11 _ => 6 - (intOf s11).toNat)
  case atStart => exact ⟨0, 0, _, _, by omega, by omega, Lib.hid rfl, rfl, rfl, oz, hr, k', by omega, hb0⟩
  case round =>
    clear hr hb0 oz hz3 hP k'
    obtain ⟨k, m, A', c', hk, hmk, HM, rfl, rfl, oz, hr, k', hzr, HB⟩ := hrel
    by_cases hlt : k < 6
    · obtain ⟨b, off, x, rfl, hbP, hcx, _, _, HXx⟩ := hr.at hlt
      obtain ⟨b2, off2, y, rfl, hbK, hcy, _, _, HYy⟩ := k'.at hlt
      have hwz := HB.out.size
      have hki : (0 : Int) ≤ (k : Int) := by omega
      have hkn : (k : Int) < 6 := by omega
      by_cases hxy : y < x
      · have HN := Lib.hid (shortL_yes HXx.out HYy.out hxy)
        have hkI : I64 (k : Int) := ⟨by omega, by omega⟩
        have HM2 := Lib.hid (show (shortL ls ss (k + 1)).length = m + 1 by rw [HN.out, List.length_append, HM.out]; rfl)
        clear HXx HYy
        generalize shortL ls ss k = T at *
        go_wp2
        go_quiet (fail)
        replace oz := oz.drewN nq
        replace hr := hr.drewN nq
        replace k' := k'.drewN nq
        replace HB := Lib.hid (belowN HB.out nq)
        replace hzr : P ≤ (wr.drewN nq).heap.size := hzr
        replace hwz : w.heap.size ≤ (wr.drewN nq).heap.size := hwz
        clear hcx hcy
        generalize wr.drewN nq = wr at *
        go_wp2_with (at_builtin; refine wpList_append_z wr rfl (.tmp 42) (.tmp 44) 31 rfl Try.underlying31 info_int w.heap.size P m _ T (k : Int) HM.out rfl rfl oz (by omega) hkI hz0 hzr ?_)
        intro A5 c5 w5 row o5 hrow hg5
        rw [← HN.out] at o5
        have r5 := hr.mark hg5 hrow hzr
        have k5 := k'.mark hg5 (fun j hj => Nat.le_trans hzK (hrow j hj)) (by omega)
        have HB5 := Lib.hid (HB.out.grown hg5 hwz (fun j hj => Nat.le_trans hz0 (hrow j hj)))
        have hz5 : P ≤ w5.heap.size := Nat.le_trans hzr hg5.size
        go_wp2
        go_roundw
        case rel => exact ⟨k + 1, m + 1, A5, c5, by omega, by omega, HM2, rfl, by go_num, o5, r5, k5, hz5, HB5⟩
        case measure => simp [intOf]; omega
      · have HN := Lib.hid (shortL_no HXx.out HYy.out hxy)
        clear HXx HYy
        rw [← HN.out] at HM oz
        go_wp2
        go_quiet (fail)
        go_wp2
        go_roundw
        case rel => exact ⟨k + 1, m, A', c', by omega, by omega, HM, rfl, by go_num, oz.drewN _, hr.drewN _, k'.drewN _, by first | exact hzr | omega, Lib.hid (belowN HB.out _)⟩
        case measure => simp [intOf]; omega
    · obtain rfl : k = 6 := by omega
      go_wp2
      go_ret2
      exact ⟨A', c', by rw [HM.out]; rfl, by rw [HM.out]; exact oz.1, HB.out⟩
end Go.Proofs.Ytndoianocmekmaa
