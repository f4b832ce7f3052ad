/- The walk of FnAreas. No condition. -/
import Derived.Test.YtgahompcejbjoaaDraws12b
import Derived.Test.YtgahompcejbjoaaAreasFn2
import Derived.Test.YtgahompcejbjoaaNeighborsS
import Derived.Deep.CutRange
namespace Go.Proofs.Ytgahompcejbjoaa
open Go.RowKit

set_option maxRecDepth 100000 in
set_option maxHeartbeats 16000000 in
theorem fnAreas_walk (w : World) (A : Option Addr) (n c : Nat) (R : RdB w w.heap.size A n c) : Calls Try.prog 3 #[.slice A n c] w fun e w' => e = .returned (.bool true) ∧ Below w.heap.size w w' := by
  have hcap := R.cap
  have hmax := R.max
  unfold maxLen at hmax
  have HB := Below.refl w.heap.size w
  by_cases hn : n ≤ 65536
  rotate_left
  · go_enter Try.func3, Try.ntmps3
    go_wp2_with fail
    refine (vBig_eq A n c _ (by omega) true (by simp; omega)).mono ?_
    rintro e w' ⟨rfl, rfl⟩
    go_wp2
    go_ret
    exact ⟨rfl, HB⟩
  go_enter Try.func3, Try.ntmps3
  go_wp2_with fail
  refine (vBig_eq A n c _ (by omega) false (by simp; omega)).mono ?_
  rintro e w' ⟨rfl, rfl⟩
  go_wp2_with fail
  refine (drawAreasOf_any A n c w.heap.size _ R HB.size hn).mono ?_
  rintro e w1 ⟨W, H, A2, c2, xs, rfl, hsm, own, hb⟩
  replace R := R.all hb HB.size
  have OX := own.mono HB.size
  clear own
  replace HB := HB.trans (hb.mono HB.size)
  clear hb
  replace OX := OX.alloc (.cells #[.int .i64 W, .int .i64 H, .slice A2 xs.length c2] 26)
  replace R := R.alloc HB.size (.cells #[.int .i64 W, .int .i64 H, .slice A2 xs.length c2] 26)
  have bC := Blk.new w1 #[.int .i64 W, .int .i64 H, .slice A2 xs.length c2] 26
  replace HB := HB.alloc HB.size (.cells #[.int .i64 W, .int .i64 H, .slice A2 xs.length c2] 26)
  obtain ⟨ar, har⟩ : ∃ vv, areasL W H xs = vv := ⟨_, rfl⟩
  obtain ⟨g, hg⟩ : ∃ vv, goodB W H xs = vv := ⟨_, rfl⟩
  obtain ⟨nn, hnn⟩ : ∃ vv, areasN W H xs = vv := ⟨_, rfl⟩
  have hAi : Hid (∀ (w : World) (A : Option Addr) (c : Nat), Rd w w.heap.size A xs.length c xs → Calls Try.prog 6 #[chartV W H (.slice A xs.length c)] w (OutInts w ar g)) := Lib.hid fun w A c h => (by have := implAreasOf_any W H A _ c _ xs w h (Nat.le_refl _); rw [har, hg] at this; exact this)
  have hNi : Hid (∀ (w : World) (A : Option Addr) (c : Nat), Rd w w.heap.size A xs.length c xs → Calls Try.prog 9 #[chartV W H (.slice A xs.length c)] w (Out w (.tuple #[.int .i64 nn, .bool g]))) := Lib.hid fun w A c h => (by have := implAreaCount_any W H A _ c _ xs w h (Nat.le_refl _); rw [hnn, hg] at this; exact this)
  have hAs : Hid (∀ (w : World) (A : Option Addr) (c : Nat), Rd w w.heap.size A xs.length c xs → Calls Try.prog 7 #[chartV W H (.slice A xs.length c)] w (OutInts w ar g)) := Lib.hid fun w A c h => (by have := specAreasOf_any W H A _ c _ xs w h (Nat.le_refl _); rw [har, hg] at this; exact this)
  have hNs : Hid (∀ (w : World) (A : Option Addr) (c : Nat), Rd w w.heap.size A xs.length c xs → Calls Try.prog 10 #[chartV W H (.slice A xs.length c)] w (Out w (.tuple #[.int .i64 nn, .bool g]))) := Lib.hid fun w A c h => (by have := specAreaCount_any W H A _ c _ xs w h (Nat.le_refl _); rw [hnn, hg] at this; exact this)
  have HT : Hid (g = true → ∃ m n ga gb : Nat, nn = (n : Int) ∧ greatA W H xs = (ga : Int) ∧ greatN W H xs = (gb : Int) ∧ colSum m xs 6 = (xs.length : Int) ∧ colCnt m xs 6 = n ∧ ga < n ∧ 1 ≤ gb ∧ xs.length ≤ gb * n ∧ n ≤ 64 ∧ gb ≤ 64 ∧ xs.length ≤ 64 ∧ (∀ q : Nat, q < 6 → sizesX W H xs (q : Int) = sizesL m xs (q : Int) ∧ sizesOk W H xs (q : Int) = true) ∧ (∀ q : Int, (sizesL m xs q).length ≤ 64 ∧ ∀ y ∈ sizesL m xs q, 0 ≤ y ∧ y ≤ 1000) ∧ goodB W H xs = true) := Lib.hid fun hh => by
    obtain ⟨m, n, ga, gb, h1, h2, h3, h4, h5, h6, h7, h8, h9, h10, h11, h12, h13⟩ := fa_top (hg.trans hh)
    exact ⟨m, n, ga, gb, hnn.symm.trans h1, h2, h3, h4, h5, h6, h7, h8, h9, h10, h11, h12, h13, hg.trans hh⟩
  clear har hg hnn hsm
  have hgg : (g != g) = false := by simp
  have ebC0 := bC.cell 0
  have ebC1 := bC.cell 1
  have ebC2 := bC.cell 2
  have zbC := bC.lt
  go_wp2_with fail
  refine (hAi.out _ _ _ OX.rd).mono ?_
  rintro e w2 ⟨A3, c3, rfl, own, hb⟩
  clear ebC0 ebC1 ebC2 zbC
  replace OX := OX.all hb
  replace bC := bC.all hb
  replace R := R.all hb HB.size
  have OA := own.mono HB.size
  clear own
  replace HB := HB.trans (hb.mono HB.size)
  clear hb
  have ebC0 := bC.cell 0
  have ebC1 := bC.cell 1
  have ebC2 := bC.cell 2
  have zbC := bC.lt
  go_wp2_with fail
  refine (hAs.out _ _ _ OX.rd).mono ?_
  rintro e w3 ⟨A4, c4, rfl, own, hb⟩
  clear ebC0 ebC1 ebC2 zbC
  replace OX := OX.all hb
  replace OA := OA.all hb
  replace bC := bC.all hb
  replace R := R.all hb HB.size
  have OB := own.mono HB.size
  clear own
  replace HB := HB.trans (hb.mono HB.size)
  clear hb
  clear hAi hAs
  have ebC0 := bC.cell 0
  have ebC1 := bC.cell 1
  have ebC2 := bC.cell 2
  have zbC := bC.lt
  go_wp2_with fail
  refine (vInts_low _ _ _ _ _ _ _ _ ar _ OA.rd OB.rd).mono ?_
  rintro e w4 ⟨rfl, hb⟩
  clear ebC0 ebC1 ebC2 zbC
  replace OX := OX.all hb
  replace OA := OA.all hb
  replace OB := OB.all hb
  replace bC := bC.all hb
  replace R := R.all hb HB.size
  replace HB := HB.trans (hb.mono HB.size)
  clear hb
  clear OA OB
  have ebC0 := bC.cell 0
  have ebC1 := bC.cell 1
  have ebC2 := bC.cell 2
  have zbC := bC.lt
  go_wp2_with fail
  refine (hNi.out _ _ _ OX.rd).mono ?_
  rintro e w5 ⟨rfl, hb⟩
  clear ebC0 ebC1 ebC2 zbC
  replace OX := OX.all hb
  replace bC := bC.all hb
  replace R := R.all hb HB.size
  replace HB := HB.trans (hb.mono HB.size)
  clear hb
  have ebC0 := bC.cell 0
  have ebC1 := bC.cell 1
  have ebC2 := bC.cell 2
  have zbC := bC.lt
  go_wp2_with fail
  refine (hNs.out _ _ _ OX.rd).mono ?_
  rintro e w6 ⟨rfl, hb⟩
  clear ebC0 ebC1 ebC2 zbC
  replace OX := OX.all hb
  replace bC := bC.all hb
  replace R := R.all hb HB.size
  replace HB := HB.trans (hb.mono HB.size)
  clear hb
  clear hNi hNs
  go_upto_if 92 with fail
  go_cut [] from 93 to 152 (fun wx => RdB wx w.heap.size A n c ∧ Below w.heap.size w wx)
  case first =>
    clear hgg
    cases g
    case false =>
      clear HT
      go_wp2
      go_meet
      exact ⟨R, HB⟩
    case true =>
      obtain ⟨m, nc, ga, gb, rfl, hga, hgb, hcs, hcc, hgn, hgb1, hpr, hn64, hgb64, hx64, hsx, hsl, hg⟩ := HT.out rfl
      have hG : Hid (∀ (w : World) (A : Option Addr) (c : Nat), Rd w w.heap.size A xs.length c xs → Calls Try.prog 13 #[chartV W H (.slice A xs.length c)] w (Out w (.tuple #[.int .i64 (ga : Int), .int .i64 (gb : Int), .bool true]))) := Lib.hid fun w A c h => (by have := implGreatestArea_any W H A _ c _ xs w h (Nat.le_refl _); rw [hga, hgb, hg] at this; exact this)
      have hZ : Hid (∀ (q : Nat), q < 6 → ∀ (w : World) (A : Option Addr) (c : Nat), Rd w w.heap.size A xs.length c xs → Calls Try.prog 11 #[chartV W H (.slice A xs.length c), .int .i64 (q : Int)] w (OutInts w (sizesL m xs (q : Int)) true)) := Lib.hid fun q hq w A c h => (by have := implAreaSizes_any W H A _ c _ xs (q : Int) w h (Nat.le_refl _); rw [(hsx q hq).1, (hsx q hq).2] at this; exact this)
      have HSL := Lib.hid hsl
      have HCS := Lib.hid hcs
      have HCC := Lib.hid hcc
      clear HT hga hgb hg hsx hsl hcs hcc
      go_wp2
      go_loopw [12, 13, 14] (fun s12 s13 s14 wr => ∃ (q : Nat) (S : Int) (C : Nat), q ≤ 6 ∧ s14 = .int .i64 q ∧ s12 = .int .i64 S ∧ s13 = .int .i64 C ∧ Hid (S = colSum m xs q) ∧ Hid (C = colCnt m xs q) ∧ 0 ≤ S ∧ S ≤ 64000 * (q : Int) ∧ C ≤ 64 * q ∧ RdB wr w.heap.size A n c ∧ Own wr w.heap.size (.slice A2 xs.length c2) xs ∧ Blk wr (w1.heap.size) 26 #[.int .i64 W, .int .i64 H, .slice A2 xs.length c2] ∧ Hid (Below w.heap.size w wr)) (fun _ _ s14 _ => 6 - (intOf s14).toNat)
      case atStart => exact ⟨0, 0, 0, by omega, rfl, rfl, rfl, Lib.hid (by simp [colSum]), Lib.hid (by simp [colCnt]), by omega, by omega, by omega, R, OX, bC, Lib.hid HB⟩
      case round =>
        clear R OX bC HB
        obtain ⟨q, S, C, hq, rfl, rfl, rfl, HS, HC, hS0, hS1, hC1, R, OX, bC, HB_⟩ := hrel
        have HB := HB_.out
        clear HB_
        by_cases hlt : q < 6
        · skip
          obtain ⟨hl64, hy⟩ := HSL.out (q : Int)
          have HY := Lib.hid hy
          clear hy
          have ebC0 := bC.cell 0
          have ebC1 := bC.cell 1
          have ebC2 := bC.cell 2
          have zbC := bC.lt
          go_wp2_with fail
          refine (hZ.out q hlt _ _ _ OX.rd).mono ?_
          rintro e w7 ⟨A5, c5, rfl, own, hb⟩
          clear ebC0 ebC1 ebC2 zbC
          replace OX := OX.all hb
          replace bC := bC.all hb
          replace R := R.all hb HB.size
          have OS := own.mono HB.size
          clear own
          replace HB := HB.trans (hb.mono HB.size)
          clear hb
          obtain ⟨sl, hsl⟩ : ∃ sl, sizesL m xs (q : Int) = sl := ⟨_, rfl⟩
          rw [hsl] at OS HY hl64 ⊢
          obtain ⟨v, hv⟩ : ∃ v, sl.sum = v := ⟨_, rfl⟩
          have HV := Lib.hid hv
          have hvb : 0 ≤ v ∧ v ≤ 64000 := by
            have := sum_bd12 HY.out sl.length
            rw [List.take_length, hv] at this
            omega
          have HS2 := Lib.hid (show S + v = colSum m xs (q + 1) by rw [colSum_succ, hsl, hv, HS.out])
          have HC2 := Lib.hid (show C + sl.length = colCnt m xs (q + 1) by rw [colCnt_succ, hsl, HC.out])
          clear hsl hv HS HC
          have hrs := OS.rd
          go_wp2_with ((go_at_call 12; (with_reducible refine (vSum12 _ _ _ _ sl _ v hrs (by omega) HY HV).mono ?_); rintro e w' ⟨rfl, rfl⟩))
          go_roundw
          case rel => exact ⟨q + 1, S + v, C + sl.length, hlt, by go_num, rfl, by go_num, HS2, HC2, by omega, by omega, by omega, R, OX, bC, Lib.hid HB⟩
          case measure => simp [intOf]; omega
        · skip
          obtain rfl : q = 6 := by omega
          have hSe := HS.out.trans HCS.out
          have hCe := HC.out.trans HCC.out
          obtain rfl : S = (xs.length : Int) := hSe
          obtain rfl : C = nc := hCe
          clear HS HC HCS HCC HSL hZ hS0 hS1 hC1
          have ebC0 := bC.cell 0
          have ebC1 := bC.cell 1
          have ebC2 := bC.cell 2
          have zbC := bC.lt
          go_wp2_with fail
          refine (hG.out _ _ _ OX.rd).mono ?_
          rintro e w7 ⟨rfl, hb⟩
          clear ebC0 ebC1 ebC2 zbC
          replace OX := OX.all hb
          replace bC := bC.all hb
          replace R := R.all hb HB.size
          replace HB := HB.trans (hb.mono HB.size)
          clear hb
          obtain ⟨pr, hpr0⟩ : ∃ pr, gb * C = pr := ⟨_, rfl⟩
          have hle : pr ≤ 64 * 64 := by rw [← hpr0]; exact Nat.mul_le_mul hgb64 hn64
          rw [hpr0] at hpr
          have hprm : (gb : Int) * (C : Int) = (pr : Int) := by rw [← hpr0]; simp
          have hprI : (xs.length : Int) ≤ (pr : Int) := by omega
          have hgaI : (ga : Int) < (C : Int) := by omega
          have hgbI : 1 ≤ (gb : Int) := by omega
          have e2 := bC.cell 2
          clear hpr0 hG
          go_wp2
          go_meet
          exact ⟨R, HB⟩
  case rest =>
    clear HT hgg
    clear OX bC
    clear R HB
    obtain ⟨R, HB⟩ := hcut
    go_wp2_with fail
    refine (drawAreaNeighbors_any A n c w.heap.size _ R HB.size hn).mono ?_
    rintro e w7 ⟨W2, H2, A6, c6, ys, a2, rfl, hsm, ha2, own, hb⟩
    replace R := R.all hb HB.size
    have OY := own.mono HB.size
    clear own
    replace HB := HB.trans (hb.mono HB.size)
    clear hb
    replace OY := OY.alloc (.cells #[.int .i64 W2, .int .i64 H2, .slice A6 ys.length c6] 26)
    replace R := R.alloc HB.size (.cells #[.int .i64 W2, .int .i64 H2, .slice A6 ys.length c6] 26)
    have bY := Blk.new w7 #[.int .i64 W2, .int .i64 H2, .slice A6 ys.length c6] 26
    replace HB := HB.alloc HB.size (.cells #[.int .i64 W2, .int .i64 H2, .slice A6 ys.length c6] 26)
    obtain ⟨nb, hnb⟩ : ∃ vv, nbrsX W2 H2 ys a2 = vv := ⟨_, rfl⟩
    obtain ⟨tb, htb⟩ : ∃ vv, hasArea W2 H2 ys a2 = vv := ⟨_, rfl⟩
    have hBi : Hid (∀ (w : World) (A : Option Addr) (c : Nat), Rd w w.heap.size A ys.length c ys → Calls Try.prog 15 #[chartV W2 H2 (.slice A ys.length c), .int .i64 a2] w (OutInts w nb tb)) := Lib.hid fun w A c h => (by have := implAreaNeighbors_any W2 H2 A _ c _ ys a2 w h (Nat.le_refl _); rw [hnb, htb] at this; exact this)
    have hBs : Hid (∀ (w : World) (A : Option Addr) (c : Nat), Rd w w.heap.size A ys.length c ys → Calls Try.prog 16 #[chartV W2 H2 (.slice A ys.length c), .int .i64 a2] w (OutInts w nb tb)) := Lib.hid fun w A c h => (by have := specAreaNeighbors_any W2 H2 A _ c _ ys a2 w h (Nat.le_refl _); rw [hnb, htb] at this; exact this)
    have HALL : Hid (nb.length ≤ 64 ∧ ∀ v ∈ nb, ∃ bk : List Int, a2 ∈ bk ∧ ∀ (w : World) (A : Option Addr) (c : Nat), Rd w w.heap.size A ys.length c ys → Calls Try.prog 15 #[chartV W2 H2 (.slice A ys.length c), .int .i64 v] w (OutInts w bk true)) := Lib.hid (by
      cases tb with
      | true =>
        obtain ⟨h1, h2⟩ := fa_nb htb
        rw [hnb] at h1 h2
        refine ⟨h1, fun v hv => ?_⟩
        obtain ⟨h3, h4⟩ := h2 v hv
        refine ⟨_, h4, fun w A c h => ?_⟩
        have := implAreaNeighbors_any W2 H2 A _ c _ ys v w h (Nat.le_refl _)
        rw [h3] at this
        exact this
      | false =>
        have h0 : nb = [] := by rw [← hnb, fa_nbno htb]
        rw [h0]
        exact ⟨by simp, fun v hv => by simp at hv⟩)
    clear hnb htb hsm
    have htt : (tb != tb) = false := by simp
    have ebY0 := bY.cell 0
    have ebY1 := bY.cell 1
    have ebY2 := bY.cell 2
    have zbY := bY.lt
    go_wp2_with fail
    refine (hBi.out _ _ _ OY.rd).mono ?_
    rintro e w8 ⟨A7, c7, rfl, own, hb⟩
    clear ebY0 ebY1 ebY2 zbY
    replace OY := OY.all hb
    replace bY := bY.all hb
    replace R := R.all hb HB.size
    have OP := own.mono HB.size
    clear own
    replace HB := HB.trans (hb.mono HB.size)
    clear hb
    have ebY0 := bY.cell 0
    have ebY1 := bY.cell 1
    have ebY2 := bY.cell 2
    have zbY := bY.lt
    go_wp2_with fail
    refine (hBs.out _ _ _ OY.rd).mono ?_
    rintro e w9 ⟨A8, c8, rfl, own, hb⟩
    clear ebY0 ebY1 ebY2 zbY
    replace OY := OY.all hb
    replace OP := OP.all hb
    replace bY := bY.all hb
    replace R := R.all hb HB.size
    have OQ := own.mono HB.size
    clear own
    replace HB := HB.trans (hb.mono HB.size)
    clear hb
    clear hBi hBs
    have hn64 := HALL.out.1
    have ebY0 := bY.cell 0
    have ebY1 := bY.cell 1
    have ebY2 := bY.cell 2
    have zbY := bY.lt
    go_wp2_with fail
    refine (vInts_low _ _ _ _ _ _ _ _ nb _ OP.rd OQ.rd).mono ?_
    rintro e w10 ⟨rfl, hb⟩
    clear ebY0 ebY1 ebY2 zbY
    replace OY := OY.all hb
    replace OP := OP.all hb
    replace OQ := OQ.all hb
    replace bY := bY.all hb
    replace R := R.all hb HB.size
    replace HB := HB.trans (hb.mono HB.size)
    clear hb
    clear OQ
    clear htt
    go_wp2
    go_loopw [26] (fun s26 wr => ∃ q : Nat, q ≤ nb.length ∧ s26 = .int .i64 q ∧ RdB wr w.heap.size A n c ∧ Own wr w.heap.size (.slice A6 ys.length c6) ys ∧ Own wr w.heap.size (.slice A7 nb.length c7) nb ∧ Blk wr (w7.heap.size) 26 #[.int .i64 W2, .int .i64 H2, .slice A6 ys.length c6] ∧ Hid (Below w.heap.size w wr)) (fun s26 _ => nb.length - (intOf s26).toNat)
    case atStart => exact ⟨0, Nat.zero_le _, rfl, R, OY, OP, bY, Lib.hid HB⟩
    case round =>
      clear R OY OP bY HB
      obtain ⟨q, hq, rfl, R, OY, OP, bY, HB_⟩ := hrel
      have HB := HB_.out
      clear HB_
      by_cases hlt : q < nb.length
      · have hrp := OP.rd
        obtain ⟨bn, on, v, rfl, hbn, hcv, hv1, hv2, HV⟩ := hrp.at hlt
        obtain ⟨bk, hmem, hcall⟩ := HALL.out.2 v (by rw [← HV.out, getD_at hlt]; exact List.getElem_mem hlt)
        have HCL : Hid (∀ (w : World) (A : Option Addr) (c : Nat), Rd w w.heap.size A ys.length c ys → Calls Try.prog 15 #[.agg #[.int .i64 W2, .int .i64 H2, .slice A ys.length c], .int .i64 v] w (OutInts w bk true)) := Lib.hid hcall
        have HM := Lib.hid (decide_eq_true hmem)
        have e0 := bY.cell 0
        have e1 := bY.cell 1
        have e2 := bY.cell 2
        have hyl := bY.lt
        have OYd : Own wr.drew w.heap.size (.slice A6 ys.length c6) ys := OY.drewN 1
        have hqI : (q : Int) < (nb.length : Int) := by omega
        clear hcall hmem hrp
        go_wp2
        go_region_held3 (fun w' => w'.cell? ⟨w7.heap.size, 0, none⟩ = some (.int .i64 W2) ∧ w'.cell? ⟨w7.heap.size, 1, none⟩ = some (.int .i64 H2) ∧ w'.cell? ⟨w7.heap.size, 2, none⟩ = some (.slice A6 ys.length c6) ∧ w'.cell? ⟨bn, on + q, none⟩ = some (.int .i64 v)) (first | exact ⟨e0, e1, e2, hcv⟩ | go_keep) (first | (go_at_call 15; (with_reducible refine (HCL.out _ _ _ OYd.rd).mono ?_); rintro e w3 ⟨A9, c9, rfl, own, hb⟩; (try replace hb := below_drew' hb); have OY3 := OY.all hb; have OP3 := OP.all hb; have bY3 := bY.all hb; have R3 := R.all hb HB.size; have HB3 := HB.trans (hb.mono HB.size); replace e0 := cells_of hb e0 hyl; replace e1 := cells_of hb e1 hyl; replace e2 := cells_of hb e2 hyl; replace hcv := cells_of hb hcv hbn; clear hb))
        have hrk := own.rd
        go_wp2_with ((go_at_call 17; (with_reducible refine (vHas_eq _ _ _ _ bk a2 _ true hrk HM).mono ?_); rintro e w' ⟨rfl, rfl⟩))
        go_roundw
        case rel => exact ⟨q + 1, hlt, by go_num, R3, OY3, OP3, bY3, Lib.hid HB3⟩
        case measure => simp [intOf]; omega
      · skip
        clear OP OY bY
        clear HALL
        have hqn : ¬ (q : Int) < (nb.length : Int) := by omega
        go_wp2_with fail
        refine (drawFillArea_any A n c w.heap.size _ R HB.size hn).mono ?_
        rintro e w11 ⟨W3, H3, A12, c12, zs, a3, k3, rfl, hsm, ha3, hk3, own, hb⟩
        replace R := R.all hb HB.size
        have OZ := own.mono HB.size
        clear own
        replace HB := HB.trans (hb.mono HB.size)
        clear hb
        replace OZ := OZ.alloc (.cells #[.int .i64 W3, .int .i64 H3, .slice A12 zs.length c12] 26)
        replace R := R.alloc HB.size (.cells #[.int .i64 W3, .int .i64 H3, .slice A12 zs.length c12] 26)
        have bZ := Blk.new w11 #[.int .i64 W3, .int .i64 H3, .slice A12 zs.length c12] 26
        replace HB := HB.alloc HB.size (.cells #[.int .i64 W3, .int .i64 H3, .slice A12 zs.length c12] 26)
        clear hqn
        obtain ⟨fl, hfl⟩ : ∃ vv, fillX W3 H3 zs a3 k3 = vv := ⟨_, rfl⟩
        obtain ⟨kb, hkb⟩ : ∃ vv, fillOk W3 H3 zs a3 k3 = vv := ⟨_, rfl⟩
        obtain ⟨fW, hfW⟩ : ∃ vv, orZero kb W3 = vv := ⟨_, rfl⟩
        obtain ⟨fH, hfH⟩ : ∃ vv, orZero kb H3 = vv := ⟨_, rfl⟩
        have hFi : Hid (∀ (w : World) (A : Option Addr) (c : Nat), Rd w w.heap.size A zs.length c zs → Calls Try.prog 19 #[chartV W3 H3 (.slice A zs.length c), .int .i64 a3, .int .i64 k3] w (OutChart w fW fH fl kb)) := Lib.hid fun w A c h => (by have := implFillArea_any W3 H3 A _ c _ zs a3 k3 w h (Nat.le_refl _); rw [hfl, hkb, hfW, hfH] at this; exact this)
        have hFs : Hid (∀ (w : World) (A : Option Addr) (c : Nat), Rd w w.heap.size A zs.length c zs → Calls Try.prog 20 #[chartV W3 H3 (.slice A zs.length c), .int .i64 a3, .int .i64 k3] w (OutChart w fW fH fl kb)) := Lib.hid fun w A c h => (by have := specFillArea_any W3 H3 A _ c _ zs a3 k3 w h (Nat.le_refl _); rw [hfl, hkb, hfW, hfH] at this; exact this)
        have HFT : Hid (kb = true → ∃ n1 n2 : Nat, (∀ (w : World) (A : Option Addr) (c : Nat), Rd w w.heap.size A zs.length c zs → Calls Try.prog 9 #[chartV W3 H3 (.slice A zs.length c)] w (Out w (.tuple #[.int .i64 (n1 : Int), .bool true]))) ∧ (∀ (w : World) (A : Option Addr) (c : Nat), Rd w w.heap.size A fl.length c fl → Calls Try.prog 9 #[chartV fW fH (.slice A fl.length c)] w (Out w (.tuple #[.int .i64 (n2 : Int), .bool true]))) ∧ n2 ≤ n1 ∧ n1 ≤ 64) := Lib.hid fun hh => by
          obtain ⟨e1, e2, g1, g2, n1, n2, q1, q2, q3, q4⟩ := fa_fill (hkb.trans hh)
          rw [hkb, hfW] at e1
          rw [hkb, hfH] at e2
          rw [hfl] at g2 q2
          refine ⟨n1, n2, fun w A c h => ?_, fun w A c h => ?_, q3, q4⟩
          · have := implAreaCount_any W3 H3 A _ c _ zs w h (Nat.le_refl _)
            rw [q1, g1] at this
            exact this
          · have := implAreaCount_any fW fH A _ c _ fl w h (Nat.le_refl _)
            rw [e1, e2, q2, g2] at this
            rw [e1, e2]
            exact this
        clear hfl hkb hfW hfH hsm ha3 hk3
        have hkk : (kb != kb) = false := by simp
        have ebZ0 := bZ.cell 0
        have ebZ1 := bZ.cell 1
        have ebZ2 := bZ.cell 2
        have zbZ := bZ.lt
        go_wp2_with fail
        refine (hFi.out _ _ _ OZ.rd).mono ?_
        rintro e w12 ⟨A13, c13, rfl, own, hb⟩
        clear ebZ0 ebZ1 ebZ2 zbZ
        replace OZ := OZ.all hb
        replace bZ := bZ.all hb
        replace R := R.all hb HB.size
        have OF := own.mono HB.size
        clear own
        replace HB := HB.trans (hb.mono HB.size)
        clear hb
        replace OZ := OZ.alloc (.cells #[.int .i64 fW, .int .i64 fH, .slice A13 fl.length c13] 26)
        replace OF := OF.alloc (.cells #[.int .i64 fW, .int .i64 fH, .slice A13 fl.length c13] 26)
        replace bZ := bZ.alloc (.cells #[.int .i64 fW, .int .i64 fH, .slice A13 fl.length c13] 26)
        replace R := R.alloc HB.size (.cells #[.int .i64 fW, .int .i64 fH, .slice A13 fl.length c13] 26)
        have bF := Blk.new w12 #[.int .i64 fW, .int .i64 fH, .slice A13 fl.length c13] 26
        replace HB := HB.alloc HB.size (.cells #[.int .i64 fW, .int .i64 fH, .slice A13 fl.length c13] 26)
        have ebZ0 := bZ.cell 0
        have ebZ1 := bZ.cell 1
        have ebZ2 := bZ.cell 2
        have zbZ := bZ.lt
        have ebF0 := bF.cell 0
        have ebF1 := bF.cell 1
        have ebF2 := bF.cell 2
        have zbF := bF.lt
        go_wp2_with fail
        refine (hFs.out _ _ _ OZ.rd).mono ?_
        rintro e w13 ⟨A14, c14, rfl, own, hb⟩
        clear ebZ0 ebZ1 ebZ2 zbZ ebF0 ebF1 ebF2 zbF
        replace OZ := OZ.all hb
        replace OF := OF.all hb
        replace bZ := bZ.all hb
        replace bF := bF.all hb
        replace R := R.all hb HB.size
        have OG := own.mono HB.size
        clear own
        replace HB := HB.trans (hb.mono HB.size)
        clear hb
        replace OZ := OZ.alloc (.cells #[.int .i64 fW, .int .i64 fH, .slice A14 fl.length c14] 26)
        replace OF := OF.alloc (.cells #[.int .i64 fW, .int .i64 fH, .slice A14 fl.length c14] 26)
        replace OG := OG.alloc (.cells #[.int .i64 fW, .int .i64 fH, .slice A14 fl.length c14] 26)
        replace bZ := bZ.alloc (.cells #[.int .i64 fW, .int .i64 fH, .slice A14 fl.length c14] 26)
        replace bF := bF.alloc (.cells #[.int .i64 fW, .int .i64 fH, .slice A14 fl.length c14] 26)
        replace R := R.alloc HB.size (.cells #[.int .i64 fW, .int .i64 fH, .slice A14 fl.length c14] 26)
        have bG := Blk.new w13 #[.int .i64 fW, .int .i64 fH, .slice A14 fl.length c14] 26
        replace HB := HB.alloc HB.size (.cells #[.int .i64 fW, .int .i64 fH, .slice A14 fl.length c14] 26)
        clear hFi hFs
        have ebZ0 := bZ.cell 0
        have ebZ1 := bZ.cell 1
        have ebZ2 := bZ.cell 2
        have zbZ := bZ.lt
        have ebF0 := bF.cell 0
        have ebF1 := bF.cell 1
        have ebF2 := bF.cell 2
        have zbF := bF.lt
        have ebG0 := bG.cell 0
        have ebG1 := bG.cell 1
        have ebG2 := bG.cell 2
        have zbG := bG.lt
        go_wp2_with fail
        refine (vChart_same fW fH _ _ _ _ _ _ _ _ fl _ OF.rd OG.rd (Nat.le_refl _) (Nat.le_refl _)).mono ?_
        rintro e w14 ⟨rfl, hb⟩
        clear ebZ0 ebZ1 ebZ2 zbZ ebF0 ebF1 ebF2 zbF ebG0 ebG1 ebG2 zbG
        replace OZ := OZ.all hb
        replace OF := OF.all hb
        replace OG := OG.all hb
        replace bZ := bZ.all hb
        replace bF := bF.all hb
        replace bG := bG.all hb
        replace R := R.all hb HB.size
        replace HB := HB.trans (hb.mono HB.size)
        clear hb
        clear OG bG
        clear hkk
        go_upto_if 231 with fail
        go_cut [] from 232 to 252 (fun wx => RdB wx w.heap.size A n c ∧ Below w.heap.size w wx)
        case first =>
          cases kb
          case false =>
            clear HFT
            go_wp2
            go_meet
            exact ⟨R, HB⟩
          case true =>
            obtain ⟨n1, n2, hc1, hc2, hle, hn64b⟩ := HFT.out rfl
            have HC1 := Lib.hid hc1
            have HC2 := Lib.hid hc2
            clear HFT hc1 hc2
            have ebZ0 := bZ.cell 0
            have ebZ1 := bZ.cell 1
            have ebZ2 := bZ.cell 2
            have zbZ := bZ.lt
            have ebF0 := bF.cell 0
            have ebF1 := bF.cell 1
            have ebF2 := bF.cell 2
            have zbF := bF.lt
            go_wp2_with fail
            refine (HC1.out _ _ _ OZ.rd).mono ?_
            rintro e w15 ⟨rfl, hb⟩
            clear ebZ0 ebZ1 ebZ2 zbZ ebF0 ebF1 ebF2 zbF
            replace OZ := OZ.all hb
            replace OF := OF.all hb
            replace bZ := bZ.all hb
            replace bF := bF.all hb
            replace R := R.all hb HB.size
            replace HB := HB.trans (hb.mono HB.size)
            clear hb
            have ebZ0 := bZ.cell 0
            have ebZ1 := bZ.cell 1
            have ebZ2 := bZ.cell 2
            have zbZ := bZ.lt
            have ebF0 := bF.cell 0
            have ebF1 := bF.cell 1
            have ebF2 := bF.cell 2
            have zbF := bF.lt
            go_wp2_with fail
            refine (HC2.out _ _ _ OF.rd).mono ?_
            rintro e w16 ⟨rfl, hb⟩
            clear ebZ0 ebZ1 ebZ2 zbZ ebF0 ebF1 ebF2 zbF
            replace OZ := OZ.all hb
            replace OF := OF.all hb
            replace bZ := bZ.all hb
            replace bF := bF.all hb
            replace R := R.all hb HB.size
            replace HB := HB.trans (hb.mono HB.size)
            clear hb
            have hgn : ¬ ((n1 : Int) < (n2 : Int)) := by omega
            clear HC1 HC2
            go_wp2
            go_meet
            exact ⟨R, HB⟩
        case rest =>
          clear HFT
          clear OZ OF bZ bF
          clear R HB
          obtain ⟨R, HB⟩ := hcut
          go_wp2_with fail
          refine (drawAreaSizes_any A n c w.heap.size _ R HB.size hn).mono ?_
          rintro e w15 ⟨W4, H4, A20, c20, us, kk, rfl, hsm, hkk, own, hb⟩
          replace R := R.all hb HB.size
          have OU := own.mono HB.size
          clear own
          replace HB := HB.trans (hb.mono HB.size)
          clear hb
          replace OU := OU.alloc (.cells #[.int .i64 W4, .int .i64 H4, .slice A20 us.length c20] 26)
          replace R := R.alloc HB.size (.cells #[.int .i64 W4, .int .i64 H4, .slice A20 us.length c20] 26)
          have bU := Blk.new w15 #[.int .i64 W4, .int .i64 H4, .slice A20 us.length c20] 26
          replace HB := HB.alloc HB.size (.cells #[.int .i64 W4, .int .i64 H4, .slice A20 us.length c20] 26)
          obtain ⟨sz, hsz⟩ : ∃ vv, sizesX W4 H4 us kk = vv := ⟨_, rfl⟩
          obtain ⟨sb, hsb⟩ : ∃ vv, sizesOk W4 H4 us kk = vv := ⟨_, rfl⟩
          have hSi : Hid (∀ (w : World) (A : Option Addr) (c : Nat), Rd w w.heap.size A us.length c us → Calls Try.prog 11 #[chartV W4 H4 (.slice A us.length c), .int .i64 kk] w (OutInts w sz sb)) := Lib.hid fun w A c h => (by have := implAreaSizes_any W4 H4 A _ c _ us kk w h (Nat.le_refl _); rw [hsz, hsb] at this; exact this)
          have hSs : Hid (∀ (w : World) (A : Option Addr) (c : Nat), Rd w w.heap.size A us.length c us → Calls Try.prog 23 #[chartV W4 H4 (.slice A us.length c), .int .i64 kk] w (OutInts w sz sb)) := Lib.hid fun w A c h => (by have := specAreaSizes_any W4 H4 A _ c _ us kk w h (Nat.le_refl _); rw [hsz, hsb] at this; exact this)
          clear hsz hsb hsm hkk
          have ebU0 := bU.cell 0
          have ebU1 := bU.cell 1
          have ebU2 := bU.cell 2
          have zbU := bU.lt
          go_wp2_with fail
          refine (hSi.out _ _ _ OU.rd).mono ?_
          rintro e w16 ⟨A21, c21, rfl, own, hb⟩
          clear ebU0 ebU1 ebU2 zbU
          replace OU := OU.all hb
          replace bU := bU.all hb
          replace R := R.all hb HB.size
          have OS := own.mono HB.size
          clear own
          replace HB := HB.trans (hb.mono HB.size)
          clear hb
          have ebU0 := bU.cell 0
          have ebU1 := bU.cell 1
          have ebU2 := bU.cell 2
          have zbU := bU.lt
          go_wp2_with fail
          refine (hSs.out _ _ _ OU.rd).mono ?_
          rintro e w17 ⟨A22, c22, rfl, own, hb⟩
          clear ebU0 ebU1 ebU2 zbU
          replace OU := OU.all hb
          replace OS := OS.all hb
          replace bU := bU.all hb
          replace R := R.all hb HB.size
          have OT := own.mono HB.size
          clear own
          replace HB := HB.trans (hb.mono HB.size)
          clear hb
          clear hSi hSs
          cases sb
          case false =>
            have ebU0 := bU.cell 0
            have ebU1 := bU.cell 1
            have ebU2 := bU.cell 2
            have zbU := bU.lt
            go_wp2_with fail
            refine (vInts_low _ _ _ _ _ _ _ _ sz _ OS.rd OT.rd).mono ?_
            rintro e w18 ⟨rfl, hb⟩
            clear ebU0 ebU1 ebU2 zbU
            replace OU := OU.all hb
            replace OS := OS.all hb
            replace OT := OT.all hb
            replace bU := bU.all hb
            replace R := R.all hb HB.size
            replace HB := HB.trans (hb.mono HB.size)
            clear hb
            go_wp2
            go_ret
            exact ⟨ret_bool (by simp), HB⟩
          case true =>
            have ebU0 := bU.cell 0
            have ebU1 := bU.cell 1
            have ebU2 := bU.cell 2
            have zbU := bU.lt
            go_wp2_with fail
            refine (vInts_low _ _ _ _ _ _ _ _ sz _ OS.rd OT.rd).mono ?_
            rintro e w18 ⟨rfl, hb⟩
            clear ebU0 ebU1 ebU2 zbU
            replace OU := OU.all hb
            replace OS := OS.all hb
            replace OT := OT.all hb
            replace bU := bU.all hb
            replace R := R.all hb HB.size
            replace HB := HB.trans (hb.mono HB.size)
            clear hb
            go_wp2
            go_ret
            exact ⟨ret_bool (by simp), HB⟩
end Go.Proofs.Ytgahompcejbjoaa
