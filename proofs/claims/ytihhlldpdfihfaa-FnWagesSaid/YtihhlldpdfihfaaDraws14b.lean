/- The draw of a list of work sheets. Condition: few draws. -/
import Derived.Test.YtihhlldpdfihfaaDraws14
namespace Go.Proofs.Ytihhlldpdfihfaa
open Go.RowKit

/-- What a draw of sheets leaves. -/
def DrewSheets (w : World) (p k : Nat) (e : Ending) (w' : World) : Prop := ∃ (A : Option Addr) (c : Nat) (xs : List WorkSheetR), e = .returned (.slice A xs.length c) ∧ xs.length ≤ 14 ∧ OwnF workSheetF w' w.heap.size (.slice A xs.length c) xs ∧ Cur w' p k ∧ w.grownBy w' (some p)
set_option maxRecDepth 100000 in
set_option maxHeartbeats 16000000 in
theorem workSheets_any (p k : Nat) (w : World) (h : Cur w p k) (hk : k + 10000 ≤ 4294967296) : Calls Try.prog 23 #[.pointer (some ⟨p, 0, none⟩)] w (DrewSheets w p (k + 10000)) := by
  have hpw := h.lt
  have hb0 : Below w.heap.size w (w.alloc (.cells #[] 36)) := (Below.refl _ _).alloc (Nat.le_refl _) _
  have HG := below_grown (row := some p) hb0
  have hc0 := h.all hb0
  have ho0 := OwnF.empty workSheetF (w := w) (Nat.le_refl _)
  clear h hb0
  go_enter Try.func23, Try.ntmps23
  go_wp2_with fail
  refine (among5 p k (w.heap.size + 1) 3 [0, 10, 3990] (w.alloc (.cells #[] 36)) (by simp) rfl hc0 (by omega) (by decide) (by decide) (i64_lit (by decide))).mono ?_
  rintro e w1 ⟨d0, rfl, hd0, hc1, hg1⟩
  have bd0 : 0 ≤ d0 ∧ d0 ≤ 3990 := by simp at hd0; omega
  have ho1 := ho0.mark hg1 (fun z z' hz hz' => by cases hz; have := (ho0.bd z' hz').1; omega)
  replace HG := grown_trans HG hg1
  clear hc0 ho0 hg1 hd0
  go_wp2_with fail
  refine (pick_any p (k + 2) 9 _ hc1 (by omega) (by omega) (by omega)).mono ?_
  rintro e w2 ⟨x, rfl, ⟨x0, x1⟩, hc2, hg2⟩
  have ho2 := ho1.mark hg2 (fun z z' hz hz' => by cases hz; have := (ho1.bd z' hz').1; omega)
  replace HG := Lib.hid (grown_trans HG hg2)
  obtain ⟨N, rfl⟩ := Int.eq_ofNat_of_zero_le x0
  have hN : N ≤ 8 := by omega
  clear hc1 ho1 hg2 x0 x1
  go_wp2
  go_loopw [3, 4, 5, 6] (fun out dd vv nn wr => ∃ (A : Option Addr) (c : Nat) (xs : List WorkSheetR) (dv iv : Int) (m : Nat), out = .slice A xs.length c ∧ dd = .int .i64 dv ∧ vv = .int .i64 iv ∧ nn = .int .i64 (m : Int) ∧ m ≤ 8 ∧ xs.length + m ≤ 8 ∧ 0 ≤ dv ∧ dv ≤ 4000 + 10 * (8 - (m : Int)) ∧ -10 * (8 - (m : Int)) ≤ iv ∧ iv ≤ 10 + 10 * (8 - (m : Int)) ∧
      OwnF workSheetF wr w.heap.size (.slice A xs.length c) xs ∧ Cur wr p (k + 4 + 200 * (8 - m)) ∧ Hid (w.grownBy wr (some p))) (fun _ _ _ nn _ => (intOf nn).toNat)
  case atStart => exact ⟨_, 0, [], d0, 1, N, rfl, rfl, rfl, rfl, hN, by simpa using hN, by omega, by omega, by omega, by omega, ho2, hc2.more (by omega), HG⟩
  case round =>
    clear ho2 hc2 HG hN bd0
    obtain ⟨A, c, xs, dv, iv, m, rfl, rfl, rfl, rfl, hm6, hxm, hd1, hd2, hi1, hi2, ho, hc, HGr⟩ := hrel
    have hzr := HGr.out.size
    have hbdo := fun q hq => (ho.bd q hq).1
    have hpr := hc.lt
    by_cases hm : 0 < m
    · have hmi : (0 : Int) < (m : Int) := by omega
      have Idv : I64 dv := ⟨by omega, by omega⟩
      have Iiv : I64 iv := ⟨by omega, by omega⟩
      go_wp2_with fail
      refine (workSheet_any p _ dv iv _ hc (by omega) Idv Iiv).mono ?_
      rintro e w4 ⟨s, rfl, hs, hc4, hg4⟩
      have ho4 := ho.mark hg4 (fun z z' hz hz' => by cases hz; have := hbdo z' hz'; omega)
      have HG4 := Lib.hid (grown_trans HGr.out hg4)
      have hz4 := HG4.out.size
      have hlen : xs.length ≤ 8 := by omega
      clear ho hc HGr hg4
      go_wp2_with (at_builtin; refine wpList_pushF workSheetF rfl w4 (.tmp 18) (.tmp 23) 26 (.agg #[.int .i64 0, .int .i64 0, .int .i64 0, .int .i64 0, .int .i64 0]) 40 rfl Try.underlying26 info_WorkSheet rfl (by decide) (by decide) w.heap.size xs.length _ xs s #[.int .i64 s.f0, .int .i64 s.f1, .int .i64 s.f2, .int .i64 s.f3, .int .i64 s.f4] rfl hs rfl rfl rfl ho4 (by omega) hz4 ?_)
      intro A5 c5 w5 ho5 hg5
      have hc5 := hc4.mark hg5 (fun z hz => by have := (ho4.bd z hz).1; omega)
      have HG5 := Lib.hid (grown_far HG4.out hg5 (fun z hz => (ho4.bd z hz).1))
      obtain ⟨zs, hzs, hzl⟩ : ∃ zs, xs ++ [s] = zs ∧ xs.length + 1 = zs.length := ⟨_, rfl, by simp⟩
      have hz1 : zs.length ≤ xs.length + 1 := by omega
      rw [hzs] at ho5
      rw [hzl] at ho5 ⊢
      have hbd5 := fun q hq => (ho5.bd q hq).1
      have hz5 := HG5.out.size
      have e1 : IntKind.i64.wrap (iv + 1) = iv + 1 := IntWalk.i64_in _ (by omega)
      clear hzs hzl ho4 hc4 HG4 hg5
      go_wp2_with fail
      refine (pick_any p _ 2 _ hc5 (by omega) (by omega) (by omega)).mono ?_
      rintro e w6 ⟨y, rfl, ⟨y0, y1⟩, hc6, hg6⟩
      have ho6 := ho5.mark hg6 (fun z z' hz hz' => by cases hz; have := hbd5 z' hz'; omega)
      have HG6 := Lib.hid (grown_trans HG5.out hg6)
      have e2 : IntKind.i64.wrap (iv + 1 + y) = iv + 1 + y := IntWalk.i64_in _ (by omega)
      clear ho5 hc5 HG5 hg6
      go_wp2_with fail
      refine (pick_any p _ 80 _ hc6 (by omega) (by omega) (by omega)).mono ?_
      rintro e w7 ⟨u, rfl, ⟨u0, u1⟩, hc7, hg7⟩
      have ho7 := ho6.mark hg7 (fun z z' hz hz' => by cases hz; have := hbd5 z' hz'; omega)
      have HG7 := Lib.hid (grown_trans HG6.out hg7)
      have ht : Int.tdiv u 79 = u / 79 := Int.tdiv_eq_ediv_of_nonneg u0
      have ht1 : 0 ≤ u / 79 ∧ u / 79 ≤ 1 := by omega
      obtain ⟨tt, htt⟩ : ∃ tt, u / 79 = tt := ⟨_, rfl⟩
      rw [htt] at ht ht1
      have e3 : IntKind.i64.wrap (iv + 1 + y - tt) = iv + 1 + y - tt := IntWalk.i64_in _ (by omega)
      clear ho6 hc6 HG6 hg7
      go_wp2_with fail
      refine (one_any p _ 2 _ hc7 (by omega) (by omega) (by omega)).mono ?_
      rintro e w8 ⟨d, rfl, hc8, hg8⟩
      have ho8 := ho7.mark hg8 (fun z z' hz hz' => by cases hz; have := hbd5 z' hz'; omega)
      have HG8 := Lib.hid (grown_trans HG7.out hg8)
      clear ho7 hc7 HG7 hg8
      cases d with
      | false =>
        go_wp2
        go_roundw
        case rel => exact ⟨A5, c5, zs, dv, iv + 1 + y - tt, m - 1, rfl, rfl, by first | rfl | (simp [*]; done) | (rw [htt]), by go_num, by omega, by omega, hd1, by omega, by omega, by omega, ho8, hc8.more (by omega), HG8⟩
        case measure => simp [intOf]; omega
      | true =>
        have hpr8 := hc8.lt
        go_wp2_with fail
        refine (among5 p _ (w8.heap.size) 2 [1, 5] w8 rfl rfl hc8 (by omega) (by decide) (by decide) (i64_lit (by decide))).mono ?_
        rintro e w9 ⟨d9, rfl, hd9, hc9, hg9⟩
        have bd9 : 1 ≤ d9 ∧ d9 ≤ 5 := by simp at hd9; omega
        have ho9 := ho8.mark hg9 (fun z z' hz hz' => by cases hz; have := hbd5 z' hz'; omega)
        have HG9 := Lib.hid (grown_trans HG8.out hg9)
        have e4 : IntKind.i64.wrap (dv + d9) = dv + d9 := IntWalk.i64_in _ (by omega)
        clear ho8 hc8 HG8 hg9 hd9
        go_wp2_with fail
        refine (pick_any p _ 3 _ hc9 (by omega) (by omega) (by omega)).mono ?_
        rintro e w10 ⟨v, rfl, ⟨v0, v1⟩, hc10, hg10⟩
        have ho10 := ho9.mark hg10 (fun z z' hz hz' => by cases hz; have := hbd5 z' hz'; omega)
        have HG10 := Lib.hid (grown_trans HG9.out hg10)
        have e5 : IntKind.i64.wrap (1 + v) = 1 + v := IntWalk.i64_in _ (by omega)
        clear ho9 hc9 HG9 hg10
        go_wp2
        go_roundw
        case rel => exact ⟨A5, c5, zs, dv + d9, 1 + v, m - 1, rfl, by go_num, by go_num, by go_num, by omega, by omega, by omega, by omega, by omega, by omega, ho10, hc10.more (by omega), HG10⟩
        case measure => simp [intOf]; omega
    · have hm0 : m = 0 := by omega
      subst hm0
      go_wp2_with fail
      refine (one_any p _ 24 _ hc (by omega) (by omega) (by omega)).mono ?_
      rintro e w2 ⟨d, rfl, hc2, hg2⟩
      have ho2 := ho.mark hg2 (fun z z' hz hz' => by cases hz; have := hbdo z' hz'; omega)
      have HG2 := Lib.hid (grown_trans HGr.out hg2)
      replace hc2 := hc2.more (show _ ≤ k + 2000 by omega)
      clear hc ho HGr hg2
      cases d
      · go_wp2
        go_ret
        exact ⟨_, c, xs, rfl, by omega, ho2, hc2.more (by omega), HG2.out⟩
      · have hz2 := HG2.out.size
        have hb2 := (Below.refl w2.heap.size w2).alloc (Nat.le_refl _) (.cells #[] 36)
        have oN : OwnF workSheetF (w2.alloc (.cells #[] 36)) w.heap.size (.slice (some ⟨w2.heap.size, 0, none⟩) 0 0) [] := (OwnF.empty workSheetF (w := w2) hz2)
        have hc3 := hc2.all hb2
        have HG3 := Lib.hid (grown_trans HG2.out (below_grown (row := some p) hb2))
        clear hc2 ho2 HG2 hb2
        go_wp2
        go_loopw [3, 7] (fun out ii wr => ∃ (A : Option Addr) (c : Nat) (xs : List WorkSheetR), out = .slice A xs.length c ∧ ii = .int .i64 (xs.length : Int) ∧ xs.length ≤ 14 ∧
            OwnF workSheetF wr w.heap.size (.slice A xs.length c) xs ∧ Cur wr p (k + 2000 + 4 * xs.length) ∧ Hid (w.grownBy wr (some p))) (fun out _ _ => 14 - lenV out)
        case atStart => exact ⟨_, 0, [], rfl, rfl, by simp, oN, hc3.more (by omega), HG3⟩
        case round =>
          obtain ⟨A, c, xs, rfl, rfl, hxl, ho, hc, HGr⟩ := hrel
          have hzr := HGr.out.size
          have hbd := fun q hq => (ho.bd q hq).1
          go_wp2_with fail
          refine (pick_any p _ 2 _ hc (by omega) (by omega) (by omega)).mono ?_
          rintro e w3 ⟨y, rfl, ⟨y0, y1⟩, hc3, hg3⟩
          have ho3 := ho.mark hg3 (fun z z' hz hz' => by cases hz; have := hbd z' hz'; omega)
          have HG3 := Lib.hid (grown_trans HGr.out hg3)
          have hz3 := HG3.out.size
          have e1 : IntKind.i64.wrap (12 + y) = 12 + y := IntWalk.i64_in _ (by omega)
          clear hc ho HGr hg3
          by_cases hlt : (xs.length : Int) < 12 + y
          · have hx9 : xs.length ≤ 12 := by omega
            have e2 : IntKind.i64.wrap (1 + (xs.length : Int)) = 1 + (xs.length : Int) := IntWalk.i64_in _ (by omega)
            have e3 : IntKind.i64.wrap (100 * (xs.length : Int)) = 100 * (xs.length : Int) := IntWalk.i64_in _ (by omega)
            obtain ⟨a, HA⟩ : ∃ a : WorkSheetR, Hid (a = ⟨1 + (xs.length : Int), 5, 100 * (xs.length : Int), 0, 0⟩) := ⟨_, rfl⟩
            have Ia : a.ok := by
              rw [HA.out]
              exact ⟨i64_small5 (by simp only; omega) (by simp only; omega), i64_small5 (by simp only; omega) (by simp only; omega), i64_small5 (by simp only; omega) (by simp only; omega), i64_small5 (by simp only; omega) (by simp only; omega), i64_small5 (by simp only; omega) (by simp only; omega)⟩
            have hea : Hid ((#[.int .i64 (1 + (xs.length : Int)), .int .i64 5, .int .i64 (100 * (xs.length : Int)), .int .i64 0, .int .i64 0] : Array Value).toList = workSheetF.enc a) := Lib.hid (by rw [HA.out]; rfl)
            go_wp2_with (at_builtin; refine wpList_pushF workSheetF rfl w3 (.tmp 54) (.tmp 60) 26 (.agg #[.int .i64 0, .int .i64 0, .int .i64 0, .int .i64 0, .int .i64 0]) 40 rfl Try.underlying26 info_WorkSheet rfl (by decide) (by decide) w.heap.size xs.length _ xs a #[.int .i64 (1 + (xs.length : Int)), .int .i64 5, .int .i64 (100 * (xs.length : Int)), .int .i64 0, .int .i64 0] hea.out Ia rfl rfl rfl ho3 (by omega) hz3 ?_)
            intro A6 c6 w6 ho6 hg6
            have hc6 := hc3.mark hg6 (fun z hz => by have := hbd z hz; omega)
            have HG6 := Lib.hid (grown_far HG3.out hg6 hbd)
            clear hc3 ho3 HG3 hg6 e1
            go_wp2
            go_roundw
            case rel => exact ⟨A6, c6, xs ++ [a], by rw [List.length_append]; rfl, by rw [List.length_append]; go_num, by rw [List.length_append]; simp; omega, by rw [List.length_append]; exact ho6, hc6.more (by rw [List.length_append]; simp; omega), HG6⟩
            case measure => simp [lenV]; omega
          · go_wp2
            go_ret
            exact ⟨A, c, xs, rfl, by omega, ho3, hc3.more (by omega), HG3.out⟩
end Go.Proofs.Ytihhlldpdfihfaa
