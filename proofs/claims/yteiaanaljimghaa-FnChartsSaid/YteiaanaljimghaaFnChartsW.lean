/- The walk of the law FnCharts. No condition. -/
import Derived.Test.YteiaanaljimghaaDraws2
import Derived.Test.YteiaanaljimghaaChartsMath
import Derived.Test.YteiaanaljimghaaParseImpl
import Derived.Test.YteiaanaljimghaaCount
import Derived.Test.YteiaanaljimghaaChange
import Derived.Test.YteiaanaljimghaaRun
import Derived.Deep.CutRange
namespace Go.Proofs.Yteiaanaljimghaa
open Go.RowKit

theorem drewN_two (w : World) (a b : Nat) : (w.drewN a).drewN b = w.drewN (a + b) := by
  simp [World.drewN, Nat.add_assoc]
set_option maxRecDepth 100000 in
set_option maxHeartbeats 16000000 in
theorem fnCharts_walk (w : World) (A : Option Addr) (n c : Nat) (R : RdB w w.heap.size A n c) : Calls Try.prog 3 #[.slice A n c] w fun e w' => e = .returned (.bool true) ∧ Below w.heap.size w w' := by
  have hcap := R.cap
  have hmax := R.max
  unfold maxLen at hmax
  have HB := Below.refl w.heap.size w
  by_cases hn : n ≤ 65536
  · go_enter Try.func3, Try.ntmps3
    go_wp2_with fail
    refine (vBig_eq A n c _ (by omega) false (by simp; omega)).mono ?_
    rintro e w' ⟨rfl, rfl⟩
    go_wp2_with fail
    refine (drawChartText_any A n c w.heap.size _ R HB.size hn).mono ?_
    rintro e w1 ⟨W, H, A2, c2, xs, rfl, hsm, own, hb⟩
    replace R := R.all hb HB.size
    have OX := own.mono HB.size
    clear own
    replace HB := HB.trans (hb.mono HB.size)
    clear hb
    replace OX := OX.alloc (.cells #[.int .i64 W, .int .i64 H, .slice A2 xs.length c2] 26)
    replace R := R.alloc HB.size (.cells #[.int .i64 W, .int .i64 H, .slice A2 xs.length c2] 26)
    have bX := Blk.new w1 #[.int .i64 W, .int .i64 H, .slice A2 xs.length c2] 26
    replace HB := HB.alloc HB.size (.cells #[.int .i64 W, .int .i64 H, .slice A2 xs.length c2] 26)
    clear hsm
    obtain ⟨gd, hgd⟩ : ∃ z, goodB W H xs = z := ⟨_, rfl⟩
    obtain ⟨tt, htt⟩ : ∃ z, textC W H xs = z := ⟨_, rfl⟩
    have htz := textC_size W H xs
    rw [htt] at htz
    have hTi : Hid (∀ (w : World) (A : Option Addr) (c : Nat), Rd w w.heap.size A xs.length c xs → Calls Try.prog 8 #[chartV W H (.slice A xs.length c)] w (Out w (.tuple #[.string tt, .bool gd]))) := Lib.hid fun w A c h => (by have := implChartText_any W H A _ c _ xs w h (Nat.le_refl _); rw [hgd, htt] at this; exact this)
    have hTs : Hid (∀ (w : World) (A : Option Addr) (c : Nat), Rd w w.heap.size A xs.length c xs → Calls Try.prog 10 #[chartV W H (.slice A xs.length c)] w (Out w (.tuple #[.string tt, .bool gd]))) := Lib.hid fun w A c h => (by have := specChartText_any W H A _ c _ xs w h (Nat.le_refl _); rw [hgd, htt] at this; exact this)
    have hIC : Hid (∀ (w : World) (A : Option Addr) (c : Nat), Rd w w.heap.size A xs.length c xs → Calls Try.prog 11 #[chartV W H (.slice A xs.length c)] w (Out w (.bool gd))) := Lib.hid fun w A c h => (by have := implIsChart_any W H A _ c _ xs w h (Nat.le_refl _); rw [hgd] at this; exact this)
    have HPT := Lib.hid (fun hgt : gd = true => parse_text (hgd.trans hgt))
    rw [htt] at HPT
    obtain ⟨pok, hpok⟩ : ∃ z, readOk tt = z := ⟨_, rfl⟩
    obtain ⟨px, hpx⟩ : ∃ z, readX tt = z := ⟨_, rfl⟩
    obtain ⟨pW, hpW⟩ : ∃ z, orZero (readOk tt) ((readM tt : Nat) : Int) = z := ⟨_, rfl⟩
    obtain ⟨pH, hpH⟩ : ∃ z, orZero (readOk tt) ((readH tt : Nat) : Int) = z := ⟨_, rfl⟩
    have hPi : Hid (∀ w : World, Calls Try.prog 9 #[.string tt] w (OutChart w pW pH px pok)) := Lib.hid fun w => (by have := implParseChart_any tt w (by unfold maxLen; omega); rw [hpok, hpx] at this; rw [← hpW, ← hpH, hpok]; exact this)
    have HPU : Hid (gd = true → pok = true ∧ xs = px ∧ W = pW ∧ H = pH) := Lib.hid fun hgt => by
      obtain ⟨a1, a2, a3, a4⟩ := HPT.out hgt
      refine ⟨hpok.symm.trans a1, (hpx.symm.trans a2).symm, ?_, ?_⟩
      · rw [← hpW, a1]; exact a3.symm
      · rw [← hpH, a1]; exact a4.symm
    clear HPT hpok hpx hpW hpH hgd htt htz
    have ebX0 := bX.cell 0
    have ebX1 := bX.cell 1
    have ebX2 := bX.cell 2
    have zbX := bX.lt
    go_wp2_with fail
    refine (hTi.out _ _ _ OX.rd).mono ?_
    rintro e w2 ⟨rfl, hb⟩
    clear ebX0 ebX1 ebX2 zbX
    replace OX := OX.all hb
    replace bX := bX.all hb
    replace R := R.all hb HB.size
    replace HB := HB.trans (hb.mono HB.size)
    clear hb
    have ebX0 := bX.cell 0
    have ebX1 := bX.cell 1
    have ebX2 := bX.cell 2
    have zbX := bX.lt
    go_wp2_with fail
    refine (hPi.out _).mono ?_
    rintro e w3 ⟨A3, c3, rfl, own, hb⟩
    clear ebX0 ebX1 ebX2 zbX
    replace OX := OX.all hb
    replace bX := bX.all hb
    replace R := R.all hb HB.size
    have OB := own.mono HB.size
    clear own
    replace HB := HB.trans (hb.mono HB.size)
    clear hb
    replace OX := OX.alloc (.cells #[.int .i64 pW, .int .i64 pH, .slice A3 px.length c3] 26)
    replace OB := OB.alloc (.cells #[.int .i64 pW, .int .i64 pH, .slice A3 px.length c3] 26)
    replace bX := bX.alloc (.cells #[.int .i64 pW, .int .i64 pH, .slice A3 px.length c3] 26)
    replace R := R.alloc HB.size (.cells #[.int .i64 pW, .int .i64 pH, .slice A3 px.length c3] 26)
    have bB := Blk.new w3 #[.int .i64 pW, .int .i64 pH, .slice A3 px.length c3] 26
    replace HB := HB.alloc HB.size (.cells #[.int .i64 pW, .int .i64 pH, .slice A3 px.length c3] 26)
    have ebX0 := bX.cell 0
    have ebX1 := bX.cell 1
    have ebX2 := bX.cell 2
    have zbX := bX.lt
    have ebB0 := bB.cell 0
    have ebB1 := bB.cell 1
    have ebB2 := bB.cell 2
    have zbB := bB.lt
    go_wp2_with fail
    refine (hTs.out _ _ _ OX.rd).mono ?_
    rintro e w4 ⟨rfl, hb⟩
    clear ebX0 ebX1 ebX2 zbX ebB0 ebB1 ebB2 zbB
    replace OX := OX.all hb
    replace OB := OB.all hb
    replace bX := bX.all hb
    replace bB := bB.all hb
    replace R := R.all hb HB.size
    replace HB := HB.trans (hb.mono HB.size)
    clear hb
    clear hTi hTs hPi
    have ebX0 := bX.cell 0
    have ebX1 := bX.cell 1
    have ebX2 := bX.cell 2
    have zbX := bX.lt
    have ebB0 := bB.cell 0
    have ebB1 := bB.cell 1
    have ebB2 := bB.cell 2
    have zbB := bB.lt
    go_upto_region 7 with fail
    go_cut [85] from 59 to 85 (fun t wx => t = .bool false ∧ Below w4.heap.size w4 wx)
    case first =>
      cases gd
      · go_wp2_with fail
        refine (hIC.out _ _ _ OX.rd).mono ?_
        rintro e wa ⟨rfl, hb⟩
        go_wp2_with fail
        go_meet
        exact ⟨rfl, hb⟩
      · obtain ⟨rfl, rfl, rfl, rfl⟩ := HPU.out rfl
        go_wp2_with fail
        refine (hIC.out _ _ _ OX.rd).mono ?_
        rintro e wa ⟨rfl, hb⟩
        replace bX := bX.all hb
        replace bB := bB.all hb
        have kbX0 := bX.cell 0
        have kbX1 := bX.cell 1
        have kbX2 := bX.cell 2
        have kbB0 := bB.cell 0
        have kbB1 := bB.cell 1
        have kbB2 := bB.cell 2
        go_wp2_with fail
        refine (vChart_same W H _ _ _ _ _ _ _ _ xs _ (OB.all hb).rd (OX.all hb).rd (Nat.le_refl _) (Nat.le_refl _)).mono ?_
        rintro e wb ⟨rfl, hb2⟩
        go_wp2_with fail
        go_meet
        exact ⟨rfl, hb.trans (hb2.mono hb.size)⟩
    case rest =>
      obtain ⟨rfl, hb⟩ := hcut
      obtain ⟨w5, hw⟩ : ∃ w5, w5 = wc := ⟨_, rfl⟩
      subst hw
      clear ebX0 ebX1 ebX2 zbX ebB0 ebB1 ebB2 zbB
      replace OX := OX.all hb
      replace OB := OB.all hb
      replace bX := bX.all hb
      replace bB := bB.all hb
      replace R := R.all hb HB.size
      replace HB := HB.trans (hb.mono HB.size)
      clear hb
      clear hIC HPU
      clear OX OB bX bB
      go_wp2_with fail
      refine (drawParseChart_any A n c w.heap.size _ R HB.size hn).mono ?_
      rintro e w6 ⟨s, rfl, hs, hb⟩
      replace R := R.all hb HB.size
      replace HB := HB.trans (hb.mono HB.size)
      clear hb
      obtain ⟨rok, hrok⟩ : ∃ z, readOk s = z := ⟨_, rfl⟩
      obtain ⟨rx, hrx⟩ : ∃ z, readX s = z := ⟨_, rfl⟩
      obtain ⟨rW, hrW⟩ : ∃ z, orZero (readOk s) ((readM s : Nat) : Int) = z := ⟨_, rfl⟩
      obtain ⟨rH, hrH⟩ : ∃ z, orZero (readOk s) ((readH s : Nat) : Int) = z := ⟨_, rfl⟩
      have hPi : Hid (∀ w : World, Calls Try.prog 9 #[.string s] w (OutChart w rW rH rx rok)) := Lib.hid fun w => (by have := implParseChart_any s w (by unfold maxLen; omega); rw [hrok, hrx] at this; rw [← hrW, ← hrH, hrok]; exact this)
      have hPs : Hid (∀ w : World, Calls Try.prog 14 #[.string s] w (OutChart w rW rH rx rok)) := Lib.hid fun w => (by have := specParseChart_any s w (by unfold maxLen; omega); rw [hrok, hrx] at this; rw [← hrW, ← hrH, hrok]; exact this)
      obtain ⟨gr, hgr⟩ : ∃ z, goodB rW rH rx = z := ⟨_, rfl⟩
      obtain ⟨tr, htr⟩ : ∃ z, textC rW rH rx = z := ⟨_, rfl⟩
      have hTr : Hid (∀ (w : World) (A : Option Addr) (c : Nat), Rd w w.heap.size A rx.length c rx → Calls Try.prog 8 #[chartV rW rH (.slice A rx.length c)] w (Out w (.tuple #[.string tr, .bool gr]))) := Lib.hid fun w A c h => (by have := implChartText_any rW rH A _ c _ rx w h (Nat.le_refl _); rw [hgr, htr] at this; exact this)
      have HRT : Hid (rok = true → gr = true ∧ tr = s) := Lib.hid fun hr => by
        have h1 := hrok.trans hr
        obtain ⟨a1, a2⟩ := text_parse h1
        rw [h1] at hrW hrH
        have e1 : rW = readM s := hrW.symm
        have e2 : rH = readH s := hrH.symm
        rw [← hgr, ← htr, e1, e2, ← hrx]; exact ⟨a1, a2⟩
      clear hrok hrx hrW hrH hgr htr hs
      go_wp2_with fail
      refine (hPi.out _).mono ?_
      rintro e w7 ⟨A3, c3, rfl, own, hb⟩
      replace R := R.all hb HB.size
      have OX := own.mono HB.size
      clear own
      replace HB := HB.trans (hb.mono HB.size)
      clear hb
      replace OX := OX.alloc (.cells #[.int .i64 rW, .int .i64 rH, .slice A3 rx.length c3] 26)
      replace R := R.alloc HB.size (.cells #[.int .i64 rW, .int .i64 rH, .slice A3 rx.length c3] 26)
      have bX := Blk.new w7 #[.int .i64 rW, .int .i64 rH, .slice A3 rx.length c3] 26
      replace HB := HB.alloc HB.size (.cells #[.int .i64 rW, .int .i64 rH, .slice A3 rx.length c3] 26)
      have ebX0 := bX.cell 0
      have ebX1 := bX.cell 1
      have ebX2 := bX.cell 2
      have zbX := bX.lt
      go_wp2_with fail
      refine (hTr.out _ _ _ OX.rd).mono ?_
      rintro e w8 ⟨rfl, hb⟩
      clear ebX0 ebX1 ebX2 zbX
      replace OX := OX.all hb
      replace bX := bX.all hb
      replace R := R.all hb HB.size
      replace HB := HB.trans (hb.mono HB.size)
      clear hb
      have ebX0 := bX.cell 0
      have ebX1 := bX.cell 1
      have ebX2 := bX.cell 2
      have zbX := bX.lt
      go_wp2_with fail
      refine (hPs.out _).mono ?_
      rintro e w9 ⟨A4, c4, rfl, own, hb⟩
      clear ebX0 ebX1 ebX2 zbX
      replace OX := OX.all hb
      replace bX := bX.all hb
      replace R := R.all hb HB.size
      have OB := own.mono HB.size
      clear own
      replace HB := HB.trans (hb.mono HB.size)
      clear hb
      replace OX := OX.alloc (.cells #[.int .i64 rW, .int .i64 rH, .slice A4 rx.length c4] 26)
      replace OB := OB.alloc (.cells #[.int .i64 rW, .int .i64 rH, .slice A4 rx.length c4] 26)
      replace bX := bX.alloc (.cells #[.int .i64 rW, .int .i64 rH, .slice A4 rx.length c4] 26)
      replace R := R.alloc HB.size (.cells #[.int .i64 rW, .int .i64 rH, .slice A4 rx.length c4] 26)
      have bB := Blk.new w9 #[.int .i64 rW, .int .i64 rH, .slice A4 rx.length c4] 26
      replace HB := HB.alloc HB.size (.cells #[.int .i64 rW, .int .i64 rH, .slice A4 rx.length c4] 26)
      clear hPi hPs hTr
      have ebX0 := bX.cell 0
      have ebX1 := bX.cell 1
      have ebX2 := bX.cell 2
      have zbX := bX.lt
      have ebB0 := bB.cell 0
      have ebB1 := bB.cell 1
      have ebB2 := bB.cell 2
      have zbB := bB.lt
      go_upto_region 13 with fail
      go_cut [123] from 103 to 123 (fun t wx => t = .bool false ∧ Below (w9.alloc (.cells #[.int .i64 rW, .int .i64 rH, .slice A4 rx.length c4] 26)).heap.size (w9.alloc (.cells #[.int .i64 rW, .int .i64 rH, .slice A4 rx.length c4] 26)) wx)
      case first =>
        go_wp2_with fail
        refine (vChart_same rW rH _ _ _ _ _ _ _ _ rx _ OX.rd OB.rd (Nat.le_refl _) (Nat.le_refl _)).mono ?_
        rintro e wb ⟨rfl, hb⟩
        cases rok
        · skip
          go_wp2_with fail
          go_meet
          exact ⟨rfl, hb⟩
        · first | (obtain ⟨rfl, rfl⟩ := HRT.out rfl) | (obtain ⟨rfl, rfl⟩ := HRT.out)
          go_wp2_with fail
          go_meet
          exact ⟨rfl, hb⟩
      case rest =>
        obtain ⟨rfl, hb⟩ := hcut
        obtain ⟨w10, hw⟩ : ∃ w10, w10 = wc := ⟨_, rfl⟩
        subst hw
        clear ebX0 ebX1 ebX2 zbX ebB0 ebB1 ebB2 zbB
        replace OX := OX.all hb
        replace OB := OB.all hb
        replace bX := bX.all hb
        replace bB := bB.all hb
        replace R := R.all hb HB.size
        replace HB := HB.trans (hb.mono HB.size)
        clear hb
        clear HRT
        clear OX OB bX bB
        go_wp2_with fail
        refine (drawCountColors_any A n c w.heap.size _ R HB.size hn).mono ?_
        rintro e w11 ⟨W, H, A2, c2, xs, rfl, hsm, own, hb⟩
        replace R := R.all hb HB.size
        have OX := own.mono HB.size
        clear own
        replace HB := HB.trans (hb.mono HB.size)
        clear hb
        replace OX := OX.alloc (.cells #[.int .i64 W, .int .i64 H, .slice A2 xs.length c2] 26)
        replace R := R.alloc HB.size (.cells #[.int .i64 W, .int .i64 H, .slice A2 xs.length c2] 26)
        have bX := Blk.new w11 #[.int .i64 W, .int .i64 H, .slice A2 xs.length c2] 26
        replace HB := HB.alloc HB.size (.cells #[.int .i64 W, .int .i64 H, .slice A2 xs.length c2] 26)
        clear hsm
        obtain ⟨gd, hgd⟩ : ∃ z, goodB W H xs = z := ⟨_, rfl⟩
        obtain ⟨cc, hcc⟩ : ∃ z, countC W H xs = z := ⟨_, rfl⟩
        have hCi : Hid (∀ (w : World) (A : Option Addr) (c : Nat), Rd w w.heap.size A xs.length c xs → Calls Try.prog 16 #[chartV W H (.slice A xs.length c)] w (OutInts w cc gd)) := Lib.hid fun w A c h => (by have := implCountColors_any W H A _ c _ xs w h (Nat.le_refl _); rw [hgd, hcc] at this; exact this)
        have hCs : Hid (∀ (w : World) (A : Option Addr) (c : Nat), Rd w w.heap.size A xs.length c xs → Calls Try.prog 17 #[chartV W H (.slice A xs.length c)] w (OutInts w cc gd)) := Lib.hid fun w A c h => (by have := specCountColors_any W H A _ c _ xs w h (Nat.le_refl _); rw [hgd, hcc] at this; exact this)
        have hbd := count_bd (W := W) (H := H) (xs := xs)
        rw [hcc] at hbd
        obtain ⟨hbd1, hbd2⟩ := hbd
        have hVS : Hid (∀ (w : World) (A : Option Addr) (c : Nat), Rd w w.heap.size A cc.length c cc → Calls Try.prog 19 #[.slice A cc.length c] w fun e w' => e = .returned (.int .i64 cc.sum) ∧ w = w') := Lib.hid fun w A c h => vSum_any A _ c _ cc w h hbd2 hbd1
        have HCS : Hid (gd = true → cc.sum = W * H ∧ -9223372036854775808 ≤ W * H ∧ W * H ≤ 9223372036854775807) := Lib.hid fun hg => by
          have h1 := hgd.trans hg
          have h2 := count_sum h1
          rw [hcc] at h2
          obtain ⟨_, _, hl, _⟩ := goodB_yes h1
          have := (good_bd h1).1
          exact ⟨h2, by omega, by omega⟩
        clear hgd hcc hbd1 hbd2
        have ebX0 := bX.cell 0
        have ebX1 := bX.cell 1
        have ebX2 := bX.cell 2
        have zbX := bX.lt
        go_wp2_with fail
        refine (hCi.out _ _ _ OX.rd).mono ?_
        rintro e w12 ⟨A3, c3, rfl, own, hb⟩
        clear ebX0 ebX1 ebX2 zbX
        replace OX := OX.all hb
        replace bX := bX.all hb
        replace R := R.all hb HB.size
        have OA := own.mono HB.size
        clear own
        replace HB := HB.trans (hb.mono HB.size)
        clear hb
        have ebX0 := bX.cell 0
        have ebX1 := bX.cell 1
        have ebX2 := bX.cell 2
        have zbX := bX.lt
        go_wp2_with fail
        refine (hCs.out _ _ _ OX.rd).mono ?_
        rintro e w13 ⟨A4, c4, rfl, own, hb⟩
        clear ebX0 ebX1 ebX2 zbX
        replace OX := OX.all hb
        replace OA := OA.all hb
        replace bX := bX.all hb
        replace R := R.all hb HB.size
        have OB := own.mono HB.size
        clear own
        replace HB := HB.trans (hb.mono HB.size)
        clear hb
        clear hCi hCs
        have ebX0 := bX.cell 0
        have ebX1 := bX.cell 1
        have ebX2 := bX.cell 2
        have zbX := bX.lt
        go_upto_region 18 with fail
        go_cut [157] from 136 to 157 (fun t wx => t = .bool false ∧ Below w13.heap.size w13 wx)
        case first =>
          cases gd
          · go_wp2
            go_quiet (first | (go_at_call 18; refine (vInts_same _ _ _ _ _ _ _ _ cc _ (OA.all (low_drewN _ _)).rd (OB.all (low_drewN _ _)).rd).mono ?_; rintro e wy ⟨rfl, q, rfl⟩; exact ⟨rfl, _, drewN_two _ _ _⟩) | (go_at_call 19; refine (hVS.out _ _ _ (OA.all (low_drewN _ _)).rd).mono ?_; rintro e wy ⟨rfl, rfl⟩; exact ⟨rfl, _, rfl⟩))
            go_wp2_with fail
            go_meet
            exact ⟨rfl, low_drewN _ _⟩
          · obtain ⟨hsum, hlo, hhi⟩ := HCS.out rfl
            rw [hsum] at hVS
            have hwr : IntKind.i64.wrap (W * H) = W * H := IntWalk.i64_in _ (by omega)
            clear hsum HCS
            go_wp2
            go_quiet (first | (go_at_call 18; refine (vInts_same _ _ _ _ _ _ _ _ cc _ (OA.all (low_drewN _ _)).rd (OB.all (low_drewN _ _)).rd).mono ?_; rintro e wy ⟨rfl, q, rfl⟩; exact ⟨rfl, _, drewN_two _ _ _⟩) | (go_at_call 19; refine (hVS.out _ _ _ (OA.all (low_drewN _ _)).rd).mono ?_; rintro e wy ⟨rfl, rfl⟩; exact ⟨rfl, _, rfl⟩))
            go_wp2_with fail
            go_meet
            exact ⟨rfl, low_drewN _ _⟩
        case rest =>
          obtain ⟨rfl, hb⟩ := hcut
          obtain ⟨w14, hw⟩ : ∃ w14, w14 = wc := ⟨_, rfl⟩
          subst hw
          clear ebX0 ebX1 ebX2 zbX
          replace OX := OX.all hb
          replace OA := OA.all hb
          replace OB := OB.all hb
          replace bX := bX.all hb
          replace R := R.all hb HB.size
          replace HB := HB.trans (hb.mono HB.size)
          clear hb
          clear HCS hVS
          clear OX OA OB bX
          go_wp2_with fail
          refine (drawChangeColor_any A n c w.heap.size _ R HB.size hn).mono ?_
          rintro e w15 ⟨W, H, A2, c2, xs, f, t, rfl, hsm, hf, ht, own, hb⟩
          replace R := R.all hb HB.size
          have OX := own.mono HB.size
          clear own
          replace HB := HB.trans (hb.mono HB.size)
          clear hb
          replace OX := OX.alloc (.cells #[.int .i64 W, .int .i64 H, .slice A2 xs.length c2] 26)
          replace R := R.alloc HB.size (.cells #[.int .i64 W, .int .i64 H, .slice A2 xs.length c2] 26)
          have bX := Blk.new w15 #[.int .i64 W, .int .i64 H, .slice A2 xs.length c2] 26
          replace HB := HB.alloc HB.size (.cells #[.int .i64 W, .int .i64 H, .slice A2 xs.length c2] 26)
          clear hsm
          obtain ⟨kc, hkc⟩ : ∃ z, changeOk W H xs f t = z := ⟨_, rfl⟩
          obtain ⟨cl, hcl⟩ : ∃ z, changeL W H xs f t = z := ⟨_, rfl⟩
          have HCC := Lib.hid (fun (h : kc = true) (hne : f ≠ t) => change_counts (hkc.trans h) hne)
          rw [hcl] at HCC
          have hGi : Hid (∀ (w : World) (A : Option Addr) (c : Nat), Rd w w.heap.size A xs.length c xs → Calls Try.prog 21 #[chartV W H (.slice A xs.length c), .int .i64 f, .int .i64 t] w (OutChart w (orZero kc W) (orZero kc H) cl kc)) := Lib.hid fun w A c h => (by have := implChangeColor_any W H A _ c _ xs f t w h (Nat.le_refl _); rw [hkc, hcl] at this; exact this)
          have hGs : Hid (∀ (w : World) (A : Option Addr) (c : Nat), Rd w w.heap.size A xs.length c xs → Calls Try.prog 22 #[chartV W H (.slice A xs.length c), .int .i64 f, .int .i64 t] w (OutChart w (orZero kc W) (orZero kc H) cl kc)) := Lib.hid fun w A c h => (by have := specChangeColor_any W H A _ c _ xs f t w h (Nat.le_refl _); rw [hkc, hcl] at this; exact this)
          clear hkc hcl
          obtain ⟨cW, hcW⟩ : ∃ z, orZero kc W = z := ⟨_, rfl⟩
          obtain ⟨cH, hcH⟩ : ∃ z, orZero kc H = z := ⟨_, rfl⟩
          rw [hcW, hcH] at hGi hGs
          have ebX0 := bX.cell 0
          have ebX1 := bX.cell 1
          have ebX2 := bX.cell 2
          have zbX := bX.lt
          go_wp2_with fail
          refine (hGi.out _ _ _ OX.rd).mono ?_
          rintro e w16 ⟨A3, c3, rfl, own, hb⟩
          clear ebX0 ebX1 ebX2 zbX
          replace OX := OX.all hb
          replace bX := bX.all hb
          replace R := R.all hb HB.size
          have OC := own.mono HB.size
          clear own
          replace HB := HB.trans (hb.mono HB.size)
          clear hb
          replace OX := OX.alloc (.cells #[.int .i64 cW, .int .i64 cH, .slice A3 cl.length c3] 26)
          replace OC := OC.alloc (.cells #[.int .i64 cW, .int .i64 cH, .slice A3 cl.length c3] 26)
          replace bX := bX.alloc (.cells #[.int .i64 cW, .int .i64 cH, .slice A3 cl.length c3] 26)
          replace R := R.alloc HB.size (.cells #[.int .i64 cW, .int .i64 cH, .slice A3 cl.length c3] 26)
          have bC := Blk.new w16 #[.int .i64 cW, .int .i64 cH, .slice A3 cl.length c3] 26
          replace HB := HB.alloc HB.size (.cells #[.int .i64 cW, .int .i64 cH, .slice A3 cl.length c3] 26)
          have ebX0 := bX.cell 0
          have ebX1 := bX.cell 1
          have ebX2 := bX.cell 2
          have zbX := bX.lt
          have ebC0 := bC.cell 0
          have ebC1 := bC.cell 1
          have ebC2 := bC.cell 2
          have zbC := bC.lt
          go_wp2_with fail
          refine (hGs.out _ _ _ OX.rd).mono ?_
          rintro e w17 ⟨A4, c4, rfl, own, hb⟩
          clear ebX0 ebX1 ebX2 zbX ebC0 ebC1 ebC2 zbC
          replace OX := OX.all hb
          replace OC := OC.all hb
          replace bX := bX.all hb
          replace bC := bC.all hb
          replace R := R.all hb HB.size
          have OB := own.mono HB.size
          clear own
          replace HB := HB.trans (hb.mono HB.size)
          clear hb
          replace OX := OX.alloc (.cells #[.int .i64 cW, .int .i64 cH, .slice A4 cl.length c4] 26)
          replace OC := OC.alloc (.cells #[.int .i64 cW, .int .i64 cH, .slice A4 cl.length c4] 26)
          replace OB := OB.alloc (.cells #[.int .i64 cW, .int .i64 cH, .slice A4 cl.length c4] 26)
          replace bX := bX.alloc (.cells #[.int .i64 cW, .int .i64 cH, .slice A4 cl.length c4] 26)
          replace bC := bC.alloc (.cells #[.int .i64 cW, .int .i64 cH, .slice A4 cl.length c4] 26)
          replace R := R.alloc HB.size (.cells #[.int .i64 cW, .int .i64 cH, .slice A4 cl.length c4] 26)
          have bB := Blk.new w17 #[.int .i64 cW, .int .i64 cH, .slice A4 cl.length c4] 26
          replace HB := HB.alloc HB.size (.cells #[.int .i64 cW, .int .i64 cH, .slice A4 cl.length c4] 26)
          clear hGi hGs
          have ebX0 := bX.cell 0
          have ebX1 := bX.cell 1
          have ebX2 := bX.cell 2
          have zbX := bX.lt
          have ebC0 := bC.cell 0
          have ebC1 := bC.cell 1
          have ebC2 := bC.cell 2
          have zbC := bC.lt
          have ebB0 := bB.cell 0
          have ebB1 := bB.cell 1
          have ebB2 := bB.cell 2
          have zbB := bB.lt
          go_upto_region 23 with fail
          go_cut [186] from 178 to 186 (fun t wx => t = .bool false ∧ Below (w17.alloc (.cells #[.int .i64 cW, .int .i64 cH, .slice A4 cl.length c4] 26)).heap.size (w17.alloc (.cells #[.int .i64 cW, .int .i64 cH, .slice A4 cl.length c4] 26)) wx)
          case first =>
            go_wp2_with fail
            refine (vChart_same cW cH _ _ _ _ _ _ _ _ cl _ OC.rd OB.rd (Nat.le_refl _) (Nat.le_refl _)).mono ?_
            rintro e wb ⟨rfl, hb⟩
            go_wp2_with fail
            go_meet
            exact ⟨rfl, hb⟩
          case rest =>
            obtain ⟨rfl, hb⟩ := hcut
            obtain ⟨w18, hw⟩ : ∃ w18, w18 = wc := ⟨_, rfl⟩
            subst hw
            clear ebX0 ebX1 ebX2 zbX ebC0 ebC1 ebC2 zbC ebB0 ebB1 ebB2 zbB
            replace OX := OX.all hb
            replace OC := OC.all hb
            replace OB := OB.all hb
            replace bX := bX.all hb
            replace bC := bC.all hb
            replace bB := bB.all hb
            replace R := R.all hb HB.size
            replace HB := HB.trans (hb.mono HB.size)
            clear hb
            clear OB bB
            cases kc
            · clear HCC hcW hcH
              clear OX OC bX bC
              go_wp2_with fail
              refine (drawLongestRun_any A n c w.heap.size _ R HB.size hn).mono ?_
              rintro e w19 ⟨uW, uH, A5, c5, us, rfl, hsm, own, hb⟩
              replace R := R.all hb HB.size
              have OU := own.mono HB.size
              clear own
              replace HB := HB.trans (hb.mono HB.size)
              clear hb
              replace OU := OU.alloc (.cells #[.int .i64 uW, .int .i64 uH, .slice A5 us.length c5] 26)
              replace R := R.alloc HB.size (.cells #[.int .i64 uW, .int .i64 uH, .slice A5 us.length c5] 26)
              have bU := Blk.new w19 #[.int .i64 uW, .int .i64 uH, .slice A5 us.length c5] 26
              replace HB := HB.alloc HB.size (.cells #[.int .i64 uW, .int .i64 uH, .slice A5 us.length c5] 26)
              clear hsm
              obtain ⟨gu, hgu⟩ : ∃ z, goodB uW uH us = z := ⟨_, rfl⟩
              obtain ⟨rn, hrn⟩ : ∃ z, runN uW uH us = z := ⟨_, rfl⟩
              obtain ⟨rr, hrr⟩ : ∃ z, runR uW uH us = z := ⟨_, rfl⟩
              have hRi : Hid (∀ (w : World) (A : Option Addr) (c : Nat), Rd w w.heap.size A us.length c us → Calls Try.prog 24 #[chartV uW uH (.slice A us.length c)] w (Out w (.tuple #[.int .i64 rn, .int .i64 rr, .bool gu]))) := Lib.hid fun w A c h => (by have := implLongestRun_any uW uH A _ c _ us w h (Nat.le_refl _); rw [hgu, hrn, hrr] at this; exact this)
              have hRs : Hid (∀ (w : World) (A : Option Addr) (c : Nat), Rd w w.heap.size A us.length c us → Calls Try.prog 25 #[chartV uW uH (.slice A us.length c)] w (Out w (.tuple #[.int .i64 rn, .int .i64 rr, .bool gu]))) := Lib.hid fun w A c h => (by have := specLongestRun_any uW uH A _ c _ us w h (Nat.le_refl _); rw [hgu, hrn, hrr] at this; exact this)
              have HRB : Hid (gu = true → 1 ≤ rn ∧ rn ≤ uW) := Lib.hid fun h => by
                have := run_bd (hgu.trans h)
                rw [hrn] at this; exact this
              clear hgu hrn hrr
              have ebU0 := bU.cell 0
              have ebU1 := bU.cell 1
              have ebU2 := bU.cell 2
              have zbU := bU.lt
              go_wp2_with fail
              refine (hRi.out _ _ _ OU.rd).mono ?_
              rintro e w20 ⟨rfl, hb⟩
              clear ebU0 ebU1 ebU2 zbU
              replace OU := OU.all hb
              replace bU := bU.all hb
              replace R := R.all hb HB.size
              replace HB := HB.trans (hb.mono HB.size)
              clear hb
              have ebU0 := bU.cell 0
              have ebU1 := bU.cell 1
              have ebU2 := bU.cell 2
              have zbU := bU.lt
              go_wp2_with fail
              refine (hRs.out _ _ _ OU.rd).mono ?_
              rintro e w21 ⟨rfl, hb⟩
              clear ebU0 ebU1 ebU2 zbU
              replace OU := OU.all hb
              replace bU := bU.all hb
              replace R := R.all hb HB.size
              replace HB := HB.trans (hb.mono HB.size)
              clear hb
              clear hRi hRs
              have ebU0 := bU.cell 0
              have ebU1 := bU.cell 1
              have ebU2 := bU.cell 2
              have zbU := bU.lt
              cases gu
              · go_wp2
                go_ret
                exact ⟨ret_bool (by simp), HB⟩
              · obtain ⟨h1, h2⟩ := HRB.out rfl
                go_wp2
                go_ret
                exact ⟨ret_bool (by first | (simp; done) | simp [h1, h2]), HB⟩
            · by_cases hne : f = t
              · have hfe : (f == t) = true := by rw [hne]; exact beq_self_eq_true _
                have hfn : (f != t) = false := by rw [hne]; simp
                clear HCC hcW hcH hne
                clear OX OC bX bC
                go_wp2_with fail
                refine (drawLongestRun_any A n c w.heap.size _ R HB.size hn).mono ?_
                rintro e w19 ⟨uW, uH, A5, c5, us, rfl, hsm, own, hb⟩
                replace R := R.all hb HB.size
                have OU := own.mono HB.size
                clear own
                replace HB := HB.trans (hb.mono HB.size)
                clear hb
                replace OU := OU.alloc (.cells #[.int .i64 uW, .int .i64 uH, .slice A5 us.length c5] 26)
                replace R := R.alloc HB.size (.cells #[.int .i64 uW, .int .i64 uH, .slice A5 us.length c5] 26)
                have bU := Blk.new w19 #[.int .i64 uW, .int .i64 uH, .slice A5 us.length c5] 26
                replace HB := HB.alloc HB.size (.cells #[.int .i64 uW, .int .i64 uH, .slice A5 us.length c5] 26)
                clear hsm
                obtain ⟨gu, hgu⟩ : ∃ z, goodB uW uH us = z := ⟨_, rfl⟩
                obtain ⟨rn, hrn⟩ : ∃ z, runN uW uH us = z := ⟨_, rfl⟩
                obtain ⟨rr, hrr⟩ : ∃ z, runR uW uH us = z := ⟨_, rfl⟩
                have hRi : Hid (∀ (w : World) (A : Option Addr) (c : Nat), Rd w w.heap.size A us.length c us → Calls Try.prog 24 #[chartV uW uH (.slice A us.length c)] w (Out w (.tuple #[.int .i64 rn, .int .i64 rr, .bool gu]))) := Lib.hid fun w A c h => (by have := implLongestRun_any uW uH A _ c _ us w h (Nat.le_refl _); rw [hgu, hrn, hrr] at this; exact this)
                have hRs : Hid (∀ (w : World) (A : Option Addr) (c : Nat), Rd w w.heap.size A us.length c us → Calls Try.prog 25 #[chartV uW uH (.slice A us.length c)] w (Out w (.tuple #[.int .i64 rn, .int .i64 rr, .bool gu]))) := Lib.hid fun w A c h => (by have := specLongestRun_any uW uH A _ c _ us w h (Nat.le_refl _); rw [hgu, hrn, hrr] at this; exact this)
                have HRB : Hid (gu = true → 1 ≤ rn ∧ rn ≤ uW) := Lib.hid fun h => by
                  have := run_bd (hgu.trans h)
                  rw [hrn] at this; exact this
                clear hgu hrn hrr
                have ebU0 := bU.cell 0
                have ebU1 := bU.cell 1
                have ebU2 := bU.cell 2
                have zbU := bU.lt
                go_wp2_with fail
                refine (hRi.out _ _ _ OU.rd).mono ?_
                rintro e w20 ⟨rfl, hb⟩
                clear ebU0 ebU1 ebU2 zbU
                replace OU := OU.all hb
                replace bU := bU.all hb
                replace R := R.all hb HB.size
                replace HB := HB.trans (hb.mono HB.size)
                clear hb
                have ebU0 := bU.cell 0
                have ebU1 := bU.cell 1
                have ebU2 := bU.cell 2
                have zbU := bU.lt
                go_wp2_with fail
                refine (hRs.out _ _ _ OU.rd).mono ?_
                rintro e w21 ⟨rfl, hb⟩
                clear ebU0 ebU1 ebU2 zbU
                replace OU := OU.all hb
                replace bU := bU.all hb
                replace R := R.all hb HB.size
                replace HB := HB.trans (hb.mono HB.size)
                clear hb
                clear hRi hRs
                have ebU0 := bU.cell 0
                have ebU1 := bU.cell 1
                have ebU2 := bU.cell 2
                have zbU := bU.lt
                cases gu
                · go_wp2
                  go_ret
                  exact ⟨ret_bool (by simp), HB⟩
                · obtain ⟨h1, h2⟩ := HRB.out rfl
                  go_wp2
                  go_ret
                  exact ⟨ret_bool (by first | (simp; done) | simp [h1, h2]), HB⟩
              · obtain ⟨q, p, rfl, rfl, hq6, hp6, hg1, hg2, hl1, hl2, hv1, hv2, z1, z2, z3, z4⟩ := HCC.out rfl hne
                have hfn : (((q : Nat) : Int) != ((p : Nat) : Int)) = true := by simpa using hne
                obtain rfl : W = cW := hcW
                obtain rfl : H = cH := hcH
                clear HCC
                obtain ⟨d1, hd1⟩ : ∃ z, countC W H cl = z := ⟨_, rfl⟩
                obtain ⟨d2, hd2⟩ : ∃ z, countC W H xs = z := ⟨_, rfl⟩
                rw [hd1] at hl1 hv1 hv2
                rw [hd2] at hl2 hv2 z1 z2 z3 z4
                have hC1 : Hid (∀ (w : World) (A : Option Addr) (c : Nat), Rd w w.heap.size A cl.length c cl → Calls Try.prog 16 #[chartV W H (.slice A cl.length c)] w (OutInts w d1 true)) := Lib.hid fun w A c h => (by have := implCountColors_any W H A _ c _ cl w h (Nat.le_refl _); rw [hg2, hd1] at this; exact this)
                have hC2 : Hid (∀ (w : World) (A : Option Addr) (c : Nat), Rd w w.heap.size A xs.length c xs → Calls Try.prog 16 #[chartV W H (.slice A xs.length c)] w (OutInts w d2 true)) := Lib.hid fun w A c h => (by have := implCountColors_any W H A _ c _ xs w h (Nat.le_refl _); rw [hg1, hd2] at this; exact this)
                clear hd1 hd2 hg1 hg2
                have ebX0 := bX.cell 0
                have ebX1 := bX.cell 1
                have ebX2 := bX.cell 2
                have zbX := bX.lt
                have ebC0 := bC.cell 0
                have ebC1 := bC.cell 1
                have ebC2 := bC.cell 2
                have zbC := bC.lt
                go_wp2_with fail
                refine (hC1.out _ _ _ OC.rd).mono ?_
                rintro e w19 ⟨A3, c3, rfl, own, hb⟩
                clear ebX0 ebX1 ebX2 zbX ebC0 ebC1 ebC2 zbC
                replace OX := OX.all hb
                replace OC := OC.all hb
                replace bX := bX.all hb
                replace bC := bC.all hb
                replace R := R.all hb HB.size
                have OA := own.mono HB.size
                clear own
                replace HB := HB.trans (hb.mono HB.size)
                clear hb
                have ebX0 := bX.cell 0
                have ebX1 := bX.cell 1
                have ebX2 := bX.cell 2
                have zbX := bX.lt
                have ebC0 := bC.cell 0
                have ebC1 := bC.cell 1
                have ebC2 := bC.cell 2
                have zbC := bC.lt
                go_wp2_with fail
                refine (hC2.out _ _ _ OX.rd).mono ?_
                rintro e w20 ⟨A4, c4, rfl, own, hb⟩
                clear ebX0 ebX1 ebX2 zbX ebC0 ebC1 ebC2 zbC
                replace OX := OX.all hb
                replace OC := OC.all hb
                replace OA := OA.all hb
                replace bX := bX.all hb
                replace bC := bC.all hb
                replace R := R.all hb HB.size
                have OB := own.mono HB.size
                clear own
                replace HB := HB.trans (hb.mono HB.size)
                clear hb
                clear hC1 hC2
                clear OX OC bX bC
                obtain ⟨g1, rfl, _, _⟩ := OA.some_ (by omega)
                obtain ⟨g2, rfl, _, _⟩ := OB.some_ (by omega)
                have y1 := own_at OA (j := q) (by omega) hv1
                have y2 := own_at OA (j := p) (by omega) hv2
                have y3 := own_at OB (j := q) (by omega) rfl
                have y4 := own_at OB (j := p) (by omega) rfl
                have hwr : IntKind.i64.wrap (d2.getD q 0 + d2.getD p 0) = d2.getD q 0 + d2.getD p 0 := IntWalk.i64_in _ (by omega)
                have hqi : ((q : Nat) : Int) < 6 := by omega
                have hpi : ((p : Nat) : Int) < 6 := by omega
                generalize d2.getD q 0 = v1 at *
                generalize d2.getD p 0 = v2 at *
                go_upto_region 28 with fail
                go_cut [241] from 203 to 241 (fun t wx => t = .bool false ∧ Below w20.heap.size w20 wx)
                case first =>
                  go_wp2
                  go_quiet (fail)
                  go_wp2_with fail
                  go_meet
                  exact ⟨rfl, low_drewN _ _⟩
                case rest =>
                  obtain ⟨rfl, hb⟩ := hcut
                  obtain ⟨w21, hw⟩ : ∃ w21, w21 = wc := ⟨_, rfl⟩
                  subst hw
                  replace OA := OA.all hb
                  replace OB := OB.all hb
                  replace R := R.all hb HB.size
                  replace HB := HB.trans (hb.mono HB.size)
                  clear hb
                  clear OA OB
                  clear y1 y2 y3 y4 hwr
                  go_wp2_with fail
                  refine (drawLongestRun_any A n c w.heap.size _ R HB.size hn).mono ?_
                  rintro e w22 ⟨uW, uH, A5, c5, us, rfl, hsm, own, hb⟩
                  replace R := R.all hb HB.size
                  have OU := own.mono HB.size
                  clear own
                  replace HB := HB.trans (hb.mono HB.size)
                  clear hb
                  replace OU := OU.alloc (.cells #[.int .i64 uW, .int .i64 uH, .slice A5 us.length c5] 26)
                  replace R := R.alloc HB.size (.cells #[.int .i64 uW, .int .i64 uH, .slice A5 us.length c5] 26)
                  have bU := Blk.new w22 #[.int .i64 uW, .int .i64 uH, .slice A5 us.length c5] 26
                  replace HB := HB.alloc HB.size (.cells #[.int .i64 uW, .int .i64 uH, .slice A5 us.length c5] 26)
                  clear hsm
                  obtain ⟨gu, hgu⟩ : ∃ z, goodB uW uH us = z := ⟨_, rfl⟩
                  obtain ⟨rn, hrn⟩ : ∃ z, runN uW uH us = z := ⟨_, rfl⟩
                  obtain ⟨rr, hrr⟩ : ∃ z, runR uW uH us = z := ⟨_, rfl⟩
                  have hRi : Hid (∀ (w : World) (A : Option Addr) (c : Nat), Rd w w.heap.size A us.length c us → Calls Try.prog 24 #[chartV uW uH (.slice A us.length c)] w (Out w (.tuple #[.int .i64 rn, .int .i64 rr, .bool gu]))) := Lib.hid fun w A c h => (by have := implLongestRun_any uW uH A _ c _ us w h (Nat.le_refl _); rw [hgu, hrn, hrr] at this; exact this)
                  have hRs : Hid (∀ (w : World) (A : Option Addr) (c : Nat), Rd w w.heap.size A us.length c us → Calls Try.prog 25 #[chartV uW uH (.slice A us.length c)] w (Out w (.tuple #[.int .i64 rn, .int .i64 rr, .bool gu]))) := Lib.hid fun w A c h => (by have := specLongestRun_any uW uH A _ c _ us w h (Nat.le_refl _); rw [hgu, hrn, hrr] at this; exact this)
                  have HRB : Hid (gu = true → 1 ≤ rn ∧ rn ≤ uW) := Lib.hid fun h => by
                    have := run_bd (hgu.trans h)
                    rw [hrn] at this; exact this
                  clear hgu hrn hrr
                  have ebU0 := bU.cell 0
                  have ebU1 := bU.cell 1
                  have ebU2 := bU.cell 2
                  have zbU := bU.lt
                  go_wp2_with fail
                  refine (hRi.out _ _ _ OU.rd).mono ?_
                  rintro e w23 ⟨rfl, hb⟩
                  clear ebU0 ebU1 ebU2 zbU
                  replace OU := OU.all hb
                  replace bU := bU.all hb
                  replace R := R.all hb HB.size
                  replace HB := HB.trans (hb.mono HB.size)
                  clear hb
                  have ebU0 := bU.cell 0
                  have ebU1 := bU.cell 1
                  have ebU2 := bU.cell 2
                  have zbU := bU.lt
                  go_wp2_with fail
                  refine (hRs.out _ _ _ OU.rd).mono ?_
                  rintro e w24 ⟨rfl, hb⟩
                  clear ebU0 ebU1 ebU2 zbU
                  replace OU := OU.all hb
                  replace bU := bU.all hb
                  replace R := R.all hb HB.size
                  replace HB := HB.trans (hb.mono HB.size)
                  clear hb
                  clear hRi hRs
                  have ebU0 := bU.cell 0
                  have ebU1 := bU.cell 1
                  have ebU2 := bU.cell 2
                  have zbU := bU.lt
                  cases gu
                  · go_wp2
                    go_ret
                    exact ⟨ret_bool (by simp), HB⟩
                  · obtain ⟨h1, h2⟩ := HRB.out rfl
                    go_wp2
                    go_ret
                    exact ⟨ret_bool (by first | (simp; done) | simp [h1, h2]), HB⟩
  · go_enter Try.func3, Try.ntmps3
    go_wp2_with fail
    refine (vBig_eq A n c _ (by omega) true (by simp; omega)).mono ?_
    rintro e w' ⟨rfl, rfl⟩
    go_wp2
    go_ret
    exact ⟨rfl, HB⟩
end Go.Proofs.Yteiaanaljimghaa
