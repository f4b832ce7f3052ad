/- The walk of the law FnSymmetries. No condition. -/
import Derived.Test.YtihgobceahfpiaaDraws4S
import Derived.Test.YtihgobceahfpiaaSymMoves
import Derived.Test.YtihgobceahfpiaaBoth
namespace Go.Proofs.Ytihgobceahfpiaa
open Go.RowKit

set_option maxRecDepth 100000 in
set_option maxHeartbeats 16000000 in
theorem fnSymmetries_walk (w : World) (A : Option Addr) (n c : Nat) (R : RdB w w.heap.size A n c) : Calls Try.prog 4 #[.slice A n c] w fun e w' => e = .returned (.bool true) ∧ Below w.heap.size w w' := by
  have hcap := R.cap
  have hmax := R.max
  unfold maxLen at hmax
  have HB := Below.refl w.heap.size w
  by_cases hn : n ≤ 65536
  · go_enter Try.func4, Try.ntmps4
    go_wp2_with fail
    refine (vBig_eq A n c _ (by omega) false (by simp; omega)).mono ?_
    rintro e w' ⟨rfl, rfl⟩
    go_wp2_with fail
    refine (drawSymmetriesOf_any A n c w.heap.size _ R HB.size hn).mono ?_
    rintro e w1 ⟨W0, H0, A0, c0, xs0, rfl, hsm, own, hb⟩
    replace R := R.all hb HB.size
    have OC := own.mono HB.size
    clear own
    replace HB := HB.trans (hb.mono HB.size)
    clear hb
    replace OC := OC.alloc (.cells #[.int .i64 W0, .int .i64 H0, .slice A0 xs0.length c0] 26)
    replace R := R.alloc HB.size (.cells #[.int .i64 W0, .int .i64 H0, .slice A0 xs0.length c0] 26)
    have bC := Blk.new w1 #[.int .i64 W0, .int .i64 H0, .slice A0 xs0.length c0] 26
    replace HB := HB.alloc HB.size (.cells #[.int .i64 W0, .int .i64 H0, .slice A0 xs0.length c0] 26)
    have HF := Lib.hid (fun x (hx : x ∈ symsX W0 H0 xs0) => (syms_facts hx).choose_spec.2.2)
    have hal := symsX_len W0 H0 xs0
    obtain ⟨ok, hok⟩ : ∃ z, goodB W0 H0 xs0 = z := ⟨_, rfl⟩
    obtain ⟨ys, hys⟩ : ∃ z, symsX W0 H0 xs0 = z := ⟨_, rfl⟩
    have hSi : Hid (∀ (w : World) (A : Option Addr) (c : Nat), Rd w w.heap.size A xs0.length c xs0 → Calls Try.prog 22 #[chartV W0 H0 (.slice A xs0.length c)] w (OutInts w ys ok)) := Lib.hid fun w A c h => (by have := implSymmetriesOf_any W0 H0 A _ c _ xs0 w h (Nat.le_refl _); rw [hok, hys] at this; exact this)
    have hSs : Hid (∀ (w : World) (A : Option Addr) (c : Nat), Rd w w.heap.size A xs0.length c xs0 → Calls Try.prog 23 #[chartV W0 H0 (.slice A xs0.length c)] w (OutInts w ys ok)) := Lib.hid fun w A c h => (by have := specSymmetriesOf_any W0 H0 A _ c _ xs0 w h (Nat.le_refl _); rw [hok, hys] at this; exact this)
    rw [hys] at HF hal
    clear hok hys hsm
    have ebC0 := bC.cell 0
    have ebC1 := bC.cell 1
    have ebC2 := bC.cell 2
    have zbC := bC.lt
    go_wp2_with fail
    refine (hSi.out _ _ _ OC.rd).mono ?_
    rintro e w2 ⟨A1, c1, rfl, own, hb⟩
    clear ebC0 ebC1 ebC2 zbC
    replace OC := OC.all hb
    replace bC := bC.all hb
    replace R := R.all hb HB.size
    have OA := own.mono HB.size
    clear own
    replace HB := HB.trans (hb.mono HB.size)
    clear hb
    have ebC0 := bC.cell 0
    have ebC1 := bC.cell 1
    have ebC2 := bC.cell 2
    have zbC := bC.lt
    go_wp2_with fail
    refine (hSs.out _ _ _ OC.rd).mono ?_
    rintro e w3 ⟨A9, c9, rfl, own, hb⟩
    clear ebC0 ebC1 ebC2 zbC
    replace OC := OC.all hb
    replace OA := OA.all hb
    replace bC := bC.all hb
    replace R := R.all hb HB.size
    have OW := own.mono HB.size
    clear own
    replace HB := HB.trans (hb.mono HB.size)
    clear hb
    clear hSi hSs
    clear OC bC
    go_wp2_with fail
    refine (vInts_same _ _ _ _ _ _ _ _ ys _ OA.rd OW.rd).mono ?_
    rintro e wv ⟨rfl, q0, rfl⟩
    have hD0 := low_drewN w3 q0
    replace OA := OA.all hD0
    replace OW := OW.all hD0
    replace R := R.all hD0 HB.size
    replace HB := HB.trans (hD0.mono HB.size)
    clear hD0
    generalize w3.drewN q0 = wa at *
    clear OW
    go_wp2
    go_loopw [8, 9, 10, 11, 12, 13] (fun s8 _ _ _ _ _ wr => ∃ u q : Nat, u ≤ ys.length ∧ s8 = .int .i64 u ∧ wr = wa.drewN q) (fun s8 _ _ _ _ _ _ => ys.length - (intOf s8).toNat)
    case atStart => exact ⟨0, 0, Nat.zero_le _, rfl, rfl⟩
    case round =>
      obtain ⟨u, q, hu, rfl, rfl⟩ := hrel
      by_cases hul : u < ys.length
      · obtain ⟨b1, o1, x, rfl, _, hx, _, _, HX⟩ := OA.rd.at hul
        have hmem : x ∈ ys := by rw [← HX.out, getD_at hul]; exact List.getElem_mem _
        have hfx := HF.out x hmem
        obtain ⟨hsx, hux, hbx⟩ := hfx
        have HBX := Lib.hid hbx
        have HSX := Lib.hid hsx
        have HUX := Lib.hid (show decide (undoN x ∈ ys) = true by simpa using hux)
        clear hbx hsx hux hmem
        go_wp2_with fail
        refine (undo_in HSX.out _).mono ?_
        rintro e w' ⟨rfl, rfl⟩
        go_wp2_with fail
        refine (vHas_eq _ _ _ _ ys (undoN x) _ (OA.all (low_drewN wa q)).rd true HUX.out).mono ?_
        rintro e w' ⟨rfl, rfl⟩
        go_wp2
        go_loopw [11, 12, 13] (fun s11 _ _ wx => ∃ v p : Nat, v ≤ ys.length ∧ s11 = .int .i64 v ∧ wx = wa.drewN p) (fun s11 _ _ _ => ys.length - (intOf s11).toNat)
        case atStart => exact ⟨0, q, Nat.zero_le _, rfl, rfl⟩
        case round =>
          obtain ⟨v, p, hv, rfl, rfl⟩ := hrel
          by_cases hvl : v < ys.length
          · obtain ⟨b2, o2, y, e2, _, hy, _, _, HY⟩ := OA.rd.at hvl
            cases e2
            have hmy : y ∈ ys := by rw [← HY.out, getD_at hvl]; exact List.getElem_mem _
            have HBY := Lib.hid (HBX.out y hmy).1
            have HBZ := Lib.hid (show decide (bothN x y ∈ ys) = true by simpa using (HBX.out y hmy).2)
            clear hmy
            go_wp2
            go_quiet (first | (go_at_call 27; refine (both_in HBY.out _).mono ?_; rintro e wy ⟨rfl, rfl⟩; exact ⟨rfl, _, rfl⟩))
            go_wp2_with fail
            refine (vHas_eq _ _ _ _ ys (bothN x y) _ (OA.all (low_drewN wa _)).rd true HBZ.out).mono ?_
            rintro e w' ⟨rfl, rfl⟩
            go_wp2
            go_roundw
            case rel => exact ⟨v + 1, _, by omega, by go_num, rfl⟩
            case measure => simp [intOf]; omega
          · go_wp2
            go_roundw
            case rel => exact ⟨u + 1, _, by omega, by go_num, rfl⟩
            case measure => simp [intOf]; omega
      · obtain rfl : u = ys.length := by omega
        have hD := low_drewN wa q
        replace R := R.all hD HB.size
        replace HB := HB.trans (hD.mono HB.size)
        clear hD OA HF
        generalize wa.drewN q = wz at *
        go_wp2_with fail
        refine (drawMoveChart_any A n c w.heap.size _ R HB.size hn).mono ?_
        rintro e w4 ⟨W, H, A2, c2, xs, s, rfl, hsm, hs, own, hb⟩
        replace R := R.all hb HB.size
        have OX := own.mono HB.size
        clear own
        replace HB := HB.trans (hb.mono HB.size)
        clear hb
        replace OX := OX.alloc (.cells #[.int .i64 W, .int .i64 H, .slice A2 xs.length c2] 26)
        replace R := R.alloc HB.size (.cells #[.int .i64 W, .int .i64 H, .slice A2 xs.length c2] 26)
        have bX := Blk.new w4 #[.int .i64 W, .int .i64 H, .slice A2 xs.length c2] 26
        replace HB := HB.alloc HB.size (.cells #[.int .i64 W, .int .i64 H, .slice A2 xs.length c2] 26)
        clear hsm hs
        obtain ⟨told, hg⟩ : ∃ z, moveOk W H xs s = z := ⟨_, rfl⟩
        cases told
        · obtain ⟨mW, mH, ms, hMi, hMs⟩ := moves_none hg
          have ebX0 := bX.cell 0
          have ebX1 := bX.cell 1
          have ebX2 := bX.cell 2
          have zbX := bX.lt
          go_wp2_with fail
          refine (hMi.out _ _ _ OX.rd).mono ?_
          rintro e w5 ⟨A3, c3, rfl, own, hb⟩
          clear ebX0 ebX1 ebX2 zbX
          replace OX := OX.all hb
          replace bX := bX.all hb
          replace R := R.all hb HB.size
          have OM := own.mono HB.size
          clear own
          replace HB := HB.trans (hb.mono HB.size)
          clear hb
          replace OX := OX.alloc (.cells #[.int .i64 mW, .int .i64 mH, .slice A3 ms.length c3] 26)
          replace OM := OM.alloc (.cells #[.int .i64 mW, .int .i64 mH, .slice A3 ms.length c3] 26)
          replace bX := bX.alloc (.cells #[.int .i64 mW, .int .i64 mH, .slice A3 ms.length c3] 26)
          replace R := R.alloc HB.size (.cells #[.int .i64 mW, .int .i64 mH, .slice A3 ms.length c3] 26)
          have bM := Blk.new w5 #[.int .i64 mW, .int .i64 mH, .slice A3 ms.length c3] 26
          replace HB := HB.alloc HB.size (.cells #[.int .i64 mW, .int .i64 mH, .slice A3 ms.length c3] 26)
          have ebX0 := bX.cell 0
          have ebX1 := bX.cell 1
          have ebX2 := bX.cell 2
          have zbX := bX.lt
          have ebM0 := bM.cell 0
          have ebM1 := bM.cell 1
          have ebM2 := bM.cell 2
          have zbM := bM.lt
          go_wp2_with fail
          refine (hMs.out _ _ _ OX.rd).mono ?_
          rintro e w6 ⟨A4, c4, rfl, own, hb⟩
          clear ebX0 ebX1 ebX2 zbX ebM0 ebM1 ebM2 zbM
          replace OX := OX.all hb
          replace OM := OM.all hb
          replace bX := bX.all hb
          replace bM := bM.all hb
          replace R := R.all hb HB.size
          have ON := own.mono HB.size
          clear own
          replace HB := HB.trans (hb.mono HB.size)
          clear hb
          replace OX := OX.alloc (.cells #[.int .i64 mW, .int .i64 mH, .slice A4 ms.length c4] 26)
          replace OM := OM.alloc (.cells #[.int .i64 mW, .int .i64 mH, .slice A4 ms.length c4] 26)
          replace ON := ON.alloc (.cells #[.int .i64 mW, .int .i64 mH, .slice A4 ms.length c4] 26)
          replace bX := bX.alloc (.cells #[.int .i64 mW, .int .i64 mH, .slice A4 ms.length c4] 26)
          replace bM := bM.alloc (.cells #[.int .i64 mW, .int .i64 mH, .slice A4 ms.length c4] 26)
          replace R := R.alloc HB.size (.cells #[.int .i64 mW, .int .i64 mH, .slice A4 ms.length c4] 26)
          have bN := Blk.new w6 #[.int .i64 mW, .int .i64 mH, .slice A4 ms.length c4] 26
          replace HB := HB.alloc HB.size (.cells #[.int .i64 mW, .int .i64 mH, .slice A4 ms.length c4] 26)
          clear hMi hMs
          have ebX0 := bX.cell 0
          have ebX1 := bX.cell 1
          have ebX2 := bX.cell 2
          have zbX := bX.lt
          have ebM0 := bM.cell 0
          have ebM1 := bM.cell 1
          have ebM2 := bM.cell 2
          have zbM := bM.lt
          have ebN0 := bN.cell 0
          have ebN1 := bN.cell 1
          have ebN2 := bN.cell 2
          have zbN := bN.lt
          go_wp2_with fail
          refine (vChart_same mW mH _ _ _ _ _ _ _ _ ms _ OM.rd ON.rd (Nat.le_refl _) (Nat.le_refl _)).mono ?_
          rintro e w7 ⟨rfl, hb⟩
          clear ebX0 ebX1 ebX2 zbX ebM0 ebM1 ebM2 zbM ebN0 ebN1 ebN2 zbN
          replace OX := OX.all hb
          replace OM := OM.all hb
          replace ON := ON.all hb
          replace bX := bX.all hb
          replace bM := bM.all hb
          replace bN := bN.all hb
          replace R := R.all hb HB.size
          replace HB := HB.trans (hb.mono HB.size)
          clear hb
          clear OM bM ON bN
          have ebX0 := bX.cell 0
          have ebX1 := bX.cell 1
          have ebX2 := bX.cell 2
          have zbX := bX.lt
          go_wp2_with fail
          refine (drawAfterBoth_any A n c w.heap.size _ R HB.size hn).mono ?_
          rintro e w8 ⟨a, b, rfl, ha, hb2, hb⟩
          clear ebX0 ebX1 ebX2 zbX
          replace OX := OX.all hb
          replace bX := bX.all hb
          replace R := R.all hb HB.size
          replace HB := HB.trans (hb.mono HB.size)
          clear hb
          obtain ⟨bn, hbn⟩ : ∃ z, bothN a b = z := ⟨_, rfl⟩
          obtain ⟨bb, hbb⟩ : ∃ z, bothB a b = z := ⟨_, rfl⟩
          have hAi : Hid (∀ w : World, Calls Try.prog 27 #[.int .i64 a, .int .i64 b] w (Out w (.tuple #[.int .i64 bn, .bool bb]))) := Lib.hid fun w => (by have := implAfterBoth_any a b w; rw [hbn, hbb] at this; exact this)
          have hAs : Hid (∀ w : World, Calls Try.prog 32 #[.int .i64 a, .int .i64 b] w (Out w (.tuple #[.int .i64 bn, .bool bb]))) := Lib.hid fun w => (by have := specAfterBoth_any a b w; rw [hbn, hbb] at this; exact this)
          have ebX0 := bX.cell 0
          have ebX1 := bX.cell 1
          have ebX2 := bX.cell 2
          have zbX := bX.lt
          go_wp2_with fail
          refine (hAi.out _).mono ?_
          rintro e w9 ⟨rfl, hb⟩
          clear ebX0 ebX1 ebX2 zbX
          replace OX := OX.all hb
          replace bX := bX.all hb
          replace R := R.all hb HB.size
          replace HB := HB.trans (hb.mono HB.size)
          clear hb
          have ebX0 := bX.cell 0
          have ebX1 := bX.cell 1
          have ebX2 := bX.cell 2
          have zbX := bX.lt
          go_wp2_with fail
          refine (hAs.out _).mono ?_
          rintro e w10 ⟨rfl, hb⟩
          clear ebX0 ebX1 ebX2 zbX
          replace OX := OX.all hb
          replace bX := bX.all hb
          replace R := R.all hb HB.size
          replace HB := HB.trans (hb.mono HB.size)
          clear hb
          clear hAi hAs
          cases bb
          · clear hbn hbb
            clear OX bX
            clear hg
            go_wp2_with fail
            refine (drawUndoOf_any A n c w.heap.size _ R HB.size hn).mono ?_
            rintro e w11 ⟨k, rfl, hk, hb⟩
            replace R := R.all hb HB.size
            replace HB := HB.trans (hb.mono HB.size)
            clear hb
            obtain ⟨un, hun⟩ : ∃ z, undoN k = z := ⟨_, rfl⟩
            obtain ⟨ub, hub⟩ : ∃ z, isSymB k = z := ⟨_, rfl⟩
            have hUi : Hid (∀ w : World, Calls Try.prog 25 #[.int .i64 k] w (Out w (.tuple #[.int .i64 un, .bool ub]))) := Lib.hid fun w => (by have := implUndoOf_any k w; rw [hun, hub] at this; exact this)
            have hUs : Hid (∀ w : World, Calls Try.prog 35 #[.int .i64 k] w (Out w (.tuple #[.int .i64 un, .bool ub]))) := Lib.hid fun w => (by have := specUndoOf_any k w; rw [hun, hub] at this; exact this)
            clear hun hub
            go_wp2_with fail
            refine (hUi.out _).mono ?_
            rintro e w12 ⟨rfl, hb⟩
            replace R := R.all hb HB.size
            replace HB := HB.trans (hb.mono HB.size)
            clear hb
            go_wp2_with fail
            refine (hUs.out _).mono ?_
            rintro e w13 ⟨rfl, hb⟩
            replace R := R.all hb HB.size
            replace HB := HB.trans (hb.mono HB.size)
            clear hb
            cases ub
            · go_wp2
              go_ret
              exact ⟨ret_bool (by simp), HB⟩
            · go_wp2
              go_ret
              exact ⟨ret_bool (by simp), HB⟩
          · skip
            obtain ⟨g, hgg⟩ : ∃ z, goodB W H xs = z := ⟨_, rfl⟩
            have hIC : Hid (∀ (w : World) (A : Option Addr) (c : Nat), Rd w w.heap.size A xs.length c xs → Calls Try.prog 33 #[chartV W H (.slice A xs.length c)] w (Out w (.bool g))) := Lib.hid fun w A c h => (by have := implIsChart_any W H A _ c _ xs w h (Nat.le_refl _); rw [hgg] at this; exact this)
            have ebX0 := bX.cell 0
            have ebX1 := bX.cell 1
            have ebX2 := bX.cell 2
            have zbX := bX.lt
            go_wp2_with fail
            refine (hIC.out _ _ _ OX.rd).mono ?_
            rintro e w11 ⟨rfl, hb⟩
            clear ebX0 ebX1 ebX2 zbX
            replace OX := OX.all hb
            replace bX := bX.all hb
            replace R := R.all hb HB.size
            replace HB := HB.trans (hb.mono HB.size)
            clear hb
            clear hIC
            cases g
            · clear hbn hbb hgg hg
              clear OX bX
              go_wp2_with fail
              refine (drawUndoOf_any A n c w.heap.size _ R HB.size hn).mono ?_
              rintro e w12 ⟨k, rfl, hk, hb⟩
              replace R := R.all hb HB.size
              replace HB := HB.trans (hb.mono HB.size)
              clear hb
              obtain ⟨un, hun⟩ : ∃ z, undoN k = z := ⟨_, rfl⟩
              obtain ⟨ub, hub⟩ : ∃ z, isSymB k = z := ⟨_, rfl⟩
              have hUi : Hid (∀ w : World, Calls Try.prog 25 #[.int .i64 k] w (Out w (.tuple #[.int .i64 un, .bool ub]))) := Lib.hid fun w => (by have := implUndoOf_any k w; rw [hun, hub] at this; exact this)
              have hUs : Hid (∀ w : World, Calls Try.prog 35 #[.int .i64 k] w (Out w (.tuple #[.int .i64 un, .bool ub]))) := Lib.hid fun w => (by have := specUndoOf_any k w; rw [hun, hub] at this; exact this)
              clear hun hub
              go_wp2_with fail
              refine (hUi.out _).mono ?_
              rintro e w13 ⟨rfl, hb⟩
              replace R := R.all hb HB.size
              replace HB := HB.trans (hb.mono HB.size)
              clear hb
              go_wp2_with fail
              refine (hUs.out _).mono ?_
              rintro e w14 ⟨rfl, hb⟩
              replace R := R.all hb HB.size
              replace HB := HB.trans (hb.mono HB.size)
              clear hb
              cases ub
              · go_wp2
                go_ret
                exact ⟨ret_bool (by simp), HB⟩
              · go_wp2
                go_ret
                exact ⟨ret_bool (by simp), HB⟩
            · skip
              obtain ⟨fW, fH, fs, gW, gH, gs, hM1, hM2, hM3⟩ := moves_both hgg hbb hbn
              clear hbn hbb hgg hg
              have ebX0 := bX.cell 0
              have ebX1 := bX.cell 1
              have ebX2 := bX.cell 2
              have zbX := bX.lt
              go_wp2_with fail
              refine (hM1.out _ _ _ OX.rd).mono ?_
              rintro e w12 ⟨A5, c5, rfl, own, hb⟩
              clear ebX0 ebX1 ebX2 zbX
              replace OX := OX.all hb
              replace bX := bX.all hb
              replace R := R.all hb HB.size
              have OF := own.mono HB.size
              clear own
              replace HB := HB.trans (hb.mono HB.size)
              clear hb
              replace OX := OX.alloc (.cells #[.int .i64 fW, .int .i64 fH, .slice A5 fs.length c5] 26)
              replace OF := OF.alloc (.cells #[.int .i64 fW, .int .i64 fH, .slice A5 fs.length c5] 26)
              replace bX := bX.alloc (.cells #[.int .i64 fW, .int .i64 fH, .slice A5 fs.length c5] 26)
              replace R := R.alloc HB.size (.cells #[.int .i64 fW, .int .i64 fH, .slice A5 fs.length c5] 26)
              have bF := Blk.new w12 #[.int .i64 fW, .int .i64 fH, .slice A5 fs.length c5] 26
              replace HB := HB.alloc HB.size (.cells #[.int .i64 fW, .int .i64 fH, .slice A5 fs.length c5] 26)
              have ebX0 := bX.cell 0
              have ebX1 := bX.cell 1
              have ebX2 := bX.cell 2
              have zbX := bX.lt
              have ebF0 := bF.cell 0
              have ebF1 := bF.cell 1
              have ebF2 := bF.cell 2
              have zbF := bF.lt
              go_wp2_with fail
              refine (hM2.out _ _ _ OF.rd).mono ?_
              rintro e w13 ⟨A6, c6, rfl, own, hb⟩
              clear ebX0 ebX1 ebX2 zbX ebF0 ebF1 ebF2 zbF
              replace OX := OX.all hb
              replace OF := OF.all hb
              replace bX := bX.all hb
              replace bF := bF.all hb
              replace R := R.all hb HB.size
              have OG := own.mono HB.size
              clear own
              replace HB := HB.trans (hb.mono HB.size)
              clear hb
              replace OX := OX.alloc (.cells #[.int .i64 gW, .int .i64 gH, .slice A6 gs.length c6] 26)
              replace OF := OF.alloc (.cells #[.int .i64 gW, .int .i64 gH, .slice A6 gs.length c6] 26)
              replace OG := OG.alloc (.cells #[.int .i64 gW, .int .i64 gH, .slice A6 gs.length c6] 26)
              replace bX := bX.alloc (.cells #[.int .i64 gW, .int .i64 gH, .slice A6 gs.length c6] 26)
              replace bF := bF.alloc (.cells #[.int .i64 gW, .int .i64 gH, .slice A6 gs.length c6] 26)
              replace R := R.alloc HB.size (.cells #[.int .i64 gW, .int .i64 gH, .slice A6 gs.length c6] 26)
              have bG := Blk.new w13 #[.int .i64 gW, .int .i64 gH, .slice A6 gs.length c6] 26
              replace HB := HB.alloc HB.size (.cells #[.int .i64 gW, .int .i64 gH, .slice A6 gs.length c6] 26)
              have ebX0 := bX.cell 0
              have ebX1 := bX.cell 1
              have ebX2 := bX.cell 2
              have zbX := bX.lt
              have ebF0 := bF.cell 0
              have ebF1 := bF.cell 1
              have ebF2 := bF.cell 2
              have zbF := bF.lt
              have ebG0 := bG.cell 0
              have ebG1 := bG.cell 1
              have ebG2 := bG.cell 2
              have zbG := bG.lt
              go_wp2_with fail
              refine (hM3.out _ _ _ OX.rd).mono ?_
              rintro e w14 ⟨A7, c7, rfl, own, hb⟩
              clear ebX0 ebX1 ebX2 zbX ebF0 ebF1 ebF2 zbF ebG0 ebG1 ebG2 zbG
              replace OX := OX.all hb
              replace OF := OF.all hb
              replace OG := OG.all hb
              replace bX := bX.all hb
              replace bF := bF.all hb
              replace bG := bG.all hb
              replace R := R.all hb HB.size
              have OO := own.mono HB.size
              clear own
              replace HB := HB.trans (hb.mono HB.size)
              clear hb
              replace OX := OX.alloc (.cells #[.int .i64 gW, .int .i64 gH, .slice A7 gs.length c7] 26)
              replace OF := OF.alloc (.cells #[.int .i64 gW, .int .i64 gH, .slice A7 gs.length c7] 26)
              replace OG := OG.alloc (.cells #[.int .i64 gW, .int .i64 gH, .slice A7 gs.length c7] 26)
              replace OO := OO.alloc (.cells #[.int .i64 gW, .int .i64 gH, .slice A7 gs.length c7] 26)
              replace bX := bX.alloc (.cells #[.int .i64 gW, .int .i64 gH, .slice A7 gs.length c7] 26)
              replace bF := bF.alloc (.cells #[.int .i64 gW, .int .i64 gH, .slice A7 gs.length c7] 26)
              replace bG := bG.alloc (.cells #[.int .i64 gW, .int .i64 gH, .slice A7 gs.length c7] 26)
              replace R := R.alloc HB.size (.cells #[.int .i64 gW, .int .i64 gH, .slice A7 gs.length c7] 26)
              have bO := Blk.new w14 #[.int .i64 gW, .int .i64 gH, .slice A7 gs.length c7] 26
              replace HB := HB.alloc HB.size (.cells #[.int .i64 gW, .int .i64 gH, .slice A7 gs.length c7] 26)
              clear hM1 hM2 hM3
              have ebX0 := bX.cell 0
              have ebX1 := bX.cell 1
              have ebX2 := bX.cell 2
              have zbX := bX.lt
              have ebF0 := bF.cell 0
              have ebF1 := bF.cell 1
              have ebF2 := bF.cell 2
              have zbF := bF.lt
              have ebG0 := bG.cell 0
              have ebG1 := bG.cell 1
              have ebG2 := bG.cell 2
              have zbG := bG.lt
              have ebO0 := bO.cell 0
              have ebO1 := bO.cell 1
              have ebO2 := bO.cell 2
              have zbO := bO.lt
              go_wp2_with fail
              refine (vChart_same gW gH _ _ _ _ _ _ _ _ gs _ OG.rd OO.rd (Nat.le_refl _) (Nat.le_refl _)).mono ?_
              rintro e w15 ⟨rfl, hb⟩
              clear ebX0 ebX1 ebX2 zbX ebF0 ebF1 ebF2 zbF ebG0 ebG1 ebG2 zbG ebO0 ebO1 ebO2 zbO
              replace OX := OX.all hb
              replace OF := OF.all hb
              replace OG := OG.all hb
              replace OO := OO.all hb
              replace bX := bX.all hb
              replace bF := bF.all hb
              replace bG := bG.all hb
              replace bO := bO.all hb
              replace R := R.all hb HB.size
              replace HB := HB.trans (hb.mono HB.size)
              clear hb
              clear OF bF OG bG OO bO OX bX
              go_wp2_with fail
              refine (drawUndoOf_any A n c w.heap.size _ R HB.size hn).mono ?_
              rintro e w16 ⟨k, rfl, hk, hb⟩
              replace R := R.all hb HB.size
              replace HB := HB.trans (hb.mono HB.size)
              clear hb
              obtain ⟨un, hun⟩ : ∃ z, undoN k = z := ⟨_, rfl⟩
              obtain ⟨ub, hub⟩ : ∃ z, isSymB k = z := ⟨_, rfl⟩
              have hUi : Hid (∀ w : World, Calls Try.prog 25 #[.int .i64 k] w (Out w (.tuple #[.int .i64 un, .bool ub]))) := Lib.hid fun w => (by have := implUndoOf_any k w; rw [hun, hub] at this; exact this)
              have hUs : Hid (∀ w : World, Calls Try.prog 35 #[.int .i64 k] w (Out w (.tuple #[.int .i64 un, .bool ub]))) := Lib.hid fun w => (by have := specUndoOf_any k w; rw [hun, hub] at this; exact this)
              clear hun hub
              go_wp2_with fail
              refine (hUi.out _).mono ?_
              rintro e w17 ⟨rfl, hb⟩
              replace R := R.all hb HB.size
              replace HB := HB.trans (hb.mono HB.size)
              clear hb
              go_wp2_with fail
              refine (hUs.out _).mono ?_
              rintro e w18 ⟨rfl, hb⟩
              replace R := R.all hb HB.size
              replace HB := HB.trans (hb.mono HB.size)
              clear hb
              cases ub
              · go_wp2
                go_ret
                exact ⟨ret_bool (by simp), HB⟩
              · go_wp2
                go_ret
                exact ⟨ret_bool (by simp), HB⟩
        · obtain ⟨mW, mH, ms, hsy, hMi, hMs, hMu⟩ := moves_back hg
          replace hg := (move_yes hg).1
          have ebX0 := bX.cell 0
          have ebX1 := bX.cell 1
          have ebX2 := bX.cell 2
          have zbX := bX.lt
          go_wp2_with fail
          refine (hMi.out _ _ _ OX.rd).mono ?_
          rintro e w5 ⟨A3, c3, rfl, own, hb⟩
          clear ebX0 ebX1 ebX2 zbX
          replace OX := OX.all hb
          replace bX := bX.all hb
          replace R := R.all hb HB.size
          have OM := own.mono HB.size
          clear own
          replace HB := HB.trans (hb.mono HB.size)
          clear hb
          replace OX := OX.alloc (.cells #[.int .i64 mW, .int .i64 mH, .slice A3 ms.length c3] 26)
          replace OM := OM.alloc (.cells #[.int .i64 mW, .int .i64 mH, .slice A3 ms.length c3] 26)
          replace bX := bX.alloc (.cells #[.int .i64 mW, .int .i64 mH, .slice A3 ms.length c3] 26)
          replace R := R.alloc HB.size (.cells #[.int .i64 mW, .int .i64 mH, .slice A3 ms.length c3] 26)
          have bM := Blk.new w5 #[.int .i64 mW, .int .i64 mH, .slice A3 ms.length c3] 26
          replace HB := HB.alloc HB.size (.cells #[.int .i64 mW, .int .i64 mH, .slice A3 ms.length c3] 26)
          have ebX0 := bX.cell 0
          have ebX1 := bX.cell 1
          have ebX2 := bX.cell 2
          have zbX := bX.lt
          have ebM0 := bM.cell 0
          have ebM1 := bM.cell 1
          have ebM2 := bM.cell 2
          have zbM := bM.lt
          go_wp2_with fail
          refine (hMs.out _ _ _ OX.rd).mono ?_
          rintro e w6 ⟨A4, c4, rfl, own, hb⟩
          clear ebX0 ebX1 ebX2 zbX ebM0 ebM1 ebM2 zbM
          replace OX := OX.all hb
          replace OM := OM.all hb
          replace bX := bX.all hb
          replace bM := bM.all hb
          replace R := R.all hb HB.size
          have ON := own.mono HB.size
          clear own
          replace HB := HB.trans (hb.mono HB.size)
          clear hb
          replace OX := OX.alloc (.cells #[.int .i64 mW, .int .i64 mH, .slice A4 ms.length c4] 26)
          replace OM := OM.alloc (.cells #[.int .i64 mW, .int .i64 mH, .slice A4 ms.length c4] 26)
          replace ON := ON.alloc (.cells #[.int .i64 mW, .int .i64 mH, .slice A4 ms.length c4] 26)
          replace bX := bX.alloc (.cells #[.int .i64 mW, .int .i64 mH, .slice A4 ms.length c4] 26)
          replace bM := bM.alloc (.cells #[.int .i64 mW, .int .i64 mH, .slice A4 ms.length c4] 26)
          replace R := R.alloc HB.size (.cells #[.int .i64 mW, .int .i64 mH, .slice A4 ms.length c4] 26)
          have bN := Blk.new w6 #[.int .i64 mW, .int .i64 mH, .slice A4 ms.length c4] 26
          replace HB := HB.alloc HB.size (.cells #[.int .i64 mW, .int .i64 mH, .slice A4 ms.length c4] 26)
          clear hMi hMs
          have ebX0 := bX.cell 0
          have ebX1 := bX.cell 1
          have ebX2 := bX.cell 2
          have zbX := bX.lt
          have ebM0 := bM.cell 0
          have ebM1 := bM.cell 1
          have ebM2 := bM.cell 2
          have zbM := bM.lt
          have ebN0 := bN.cell 0
          have ebN1 := bN.cell 1
          have ebN2 := bN.cell 2
          have zbN := bN.lt
          go_wp2_with fail
          refine (vChart_same mW mH _ _ _ _ _ _ _ _ ms _ OM.rd ON.rd (Nat.le_refl _) (Nat.le_refl _)).mono ?_
          rintro e w7 ⟨rfl, hb⟩
          clear ebX0 ebX1 ebX2 zbX ebM0 ebM1 ebM2 zbM ebN0 ebN1 ebN2 zbN
          replace OX := OX.all hb
          replace OM := OM.all hb
          replace ON := ON.all hb
          replace bX := bX.all hb
          replace bM := bM.all hb
          replace bN := bN.all hb
          replace R := R.all hb HB.size
          replace HB := HB.trans (hb.mono HB.size)
          clear hb
          clear ON bN
          have hU : Hid (∀ w : World, Calls Try.prog 25 #[.int .i64 s] w (Out w (.tuple #[.int .i64 (undoN s), .bool true]))) := Lib.hid fun w => (by have := implUndoOf_any s w; rw [hsy] at this; exact this)
          clear hsy
          generalize undoN s = us at *
          have ebX0 := bX.cell 0
          have ebX1 := bX.cell 1
          have ebX2 := bX.cell 2
          have zbX := bX.lt
          have ebM0 := bM.cell 0
          have ebM1 := bM.cell 1
          have ebM2 := bM.cell 2
          have zbM := bM.lt
          go_wp2_with fail
          refine (hU.out _).mono ?_
          rintro e w8 ⟨rfl, hb⟩
          clear ebX0 ebX1 ebX2 zbX ebM0 ebM1 ebM2 zbM
          replace OX := OX.all hb
          replace OM := OM.all hb
          replace bX := bX.all hb
          replace bM := bM.all hb
          replace R := R.all hb HB.size
          replace HB := HB.trans (hb.mono HB.size)
          clear hb
          have ebX0 := bX.cell 0
          have ebX1 := bX.cell 1
          have ebX2 := bX.cell 2
          have zbX := bX.lt
          have ebM0 := bM.cell 0
          have ebM1 := bM.cell 1
          have ebM2 := bM.cell 2
          have zbM := bM.lt
          go_wp2_with fail
          refine (hMu.out _ _ _ OM.rd).mono ?_
          rintro e w9 ⟨A8, c8, rfl, own, hb⟩
          clear ebX0 ebX1 ebX2 zbX ebM0 ebM1 ebM2 zbM
          replace OX := OX.all hb
          replace OM := OM.all hb
          replace bX := bX.all hb
          replace bM := bM.all hb
          replace R := R.all hb HB.size
          have OB := own.mono HB.size
          clear own
          replace HB := HB.trans (hb.mono HB.size)
          clear hb
          replace OX := OX.alloc (.cells #[.int .i64 W, .int .i64 H, .slice A8 xs.length c8] 26)
          replace OM := OM.alloc (.cells #[.int .i64 W, .int .i64 H, .slice A8 xs.length c8] 26)
          replace OB := OB.alloc (.cells #[.int .i64 W, .int .i64 H, .slice A8 xs.length c8] 26)
          replace bX := bX.alloc (.cells #[.int .i64 W, .int .i64 H, .slice A8 xs.length c8] 26)
          replace bM := bM.alloc (.cells #[.int .i64 W, .int .i64 H, .slice A8 xs.length c8] 26)
          replace R := R.alloc HB.size (.cells #[.int .i64 W, .int .i64 H, .slice A8 xs.length c8] 26)
          have bB := Blk.new w9 #[.int .i64 W, .int .i64 H, .slice A8 xs.length c8] 26
          replace HB := HB.alloc HB.size (.cells #[.int .i64 W, .int .i64 H, .slice A8 xs.length c8] 26)
          clear hU hMu
          have ebX0 := bX.cell 0
          have ebX1 := bX.cell 1
          have ebX2 := bX.cell 2
          have zbX := bX.lt
          have ebM0 := bM.cell 0
          have ebM1 := bM.cell 1
          have ebM2 := bM.cell 2
          have zbM := bM.lt
          have ebB0 := bB.cell 0
          have ebB1 := bB.cell 1
          have ebB2 := bB.cell 2
          have zbB := bB.lt
          go_wp2_with fail
          refine (vChart_same W H _ _ _ _ _ _ _ _ xs _ OB.rd OX.rd (Nat.le_refl _) (Nat.le_refl _)).mono ?_
          rintro e w10 ⟨rfl, hb⟩
          clear ebX0 ebX1 ebX2 zbX ebM0 ebM1 ebM2 zbM ebB0 ebB1 ebB2 zbB
          replace OX := OX.all hb
          replace OM := OM.all hb
          replace OB := OB.all hb
          replace bX := bX.all hb
          replace bM := bM.all hb
          replace bB := bB.all hb
          replace R := R.all hb HB.size
          replace HB := HB.trans (hb.mono HB.size)
          clear hb
          clear OM bM OB bB
          have ebX0 := bX.cell 0
          have ebX1 := bX.cell 1
          have ebX2 := bX.cell 2
          have zbX := bX.lt
          go_wp2_with fail
          refine (drawAfterBoth_any A n c w.heap.size _ R HB.size hn).mono ?_
          rintro e w11 ⟨a, b, rfl, ha, hb2, hb⟩
          clear ebX0 ebX1 ebX2 zbX
          replace OX := OX.all hb
          replace bX := bX.all hb
          replace R := R.all hb HB.size
          replace HB := HB.trans (hb.mono HB.size)
          clear hb
          obtain ⟨bn, hbn⟩ : ∃ z, bothN a b = z := ⟨_, rfl⟩
          obtain ⟨bb, hbb⟩ : ∃ z, bothB a b = z := ⟨_, rfl⟩
          have hAi : Hid (∀ w : World, Calls Try.prog 27 #[.int .i64 a, .int .i64 b] w (Out w (.tuple #[.int .i64 bn, .bool bb]))) := Lib.hid fun w => (by have := implAfterBoth_any a b w; rw [hbn, hbb] at this; exact this)
          have hAs : Hid (∀ w : World, Calls Try.prog 32 #[.int .i64 a, .int .i64 b] w (Out w (.tuple #[.int .i64 bn, .bool bb]))) := Lib.hid fun w => (by have := specAfterBoth_any a b w; rw [hbn, hbb] at this; exact this)
          have ebX0 := bX.cell 0
          have ebX1 := bX.cell 1
          have ebX2 := bX.cell 2
          have zbX := bX.lt
          go_wp2_with fail
          refine (hAi.out _).mono ?_
          rintro e w12 ⟨rfl, hb⟩
          clear ebX0 ebX1 ebX2 zbX
          replace OX := OX.all hb
          replace bX := bX.all hb
          replace R := R.all hb HB.size
          replace HB := HB.trans (hb.mono HB.size)
          clear hb
          have ebX0 := bX.cell 0
          have ebX1 := bX.cell 1
          have ebX2 := bX.cell 2
          have zbX := bX.lt
          go_wp2_with fail
          refine (hAs.out _).mono ?_
          rintro e w13 ⟨rfl, hb⟩
          clear ebX0 ebX1 ebX2 zbX
          replace OX := OX.all hb
          replace bX := bX.all hb
          replace R := R.all hb HB.size
          replace HB := HB.trans (hb.mono HB.size)
          clear hb
          clear hAi hAs
          cases bb
          · clear hbn hbb
            clear OX bX
            clear hg
            go_wp2_with fail
            refine (drawUndoOf_any A n c w.heap.size _ R HB.size hn).mono ?_
            rintro e w14 ⟨k, rfl, hk, hb⟩
            replace R := R.all hb HB.size
            replace HB := HB.trans (hb.mono HB.size)
            clear hb
            obtain ⟨un, hun⟩ : ∃ z, undoN k = z := ⟨_, rfl⟩
            obtain ⟨ub, hub⟩ : ∃ z, isSymB k = z := ⟨_, rfl⟩
            have hUi : Hid (∀ w : World, Calls Try.prog 25 #[.int .i64 k] w (Out w (.tuple #[.int .i64 un, .bool ub]))) := Lib.hid fun w => (by have := implUndoOf_any k w; rw [hun, hub] at this; exact this)
            have hUs : Hid (∀ w : World, Calls Try.prog 35 #[.int .i64 k] w (Out w (.tuple #[.int .i64 un, .bool ub]))) := Lib.hid fun w => (by have := specUndoOf_any k w; rw [hun, hub] at this; exact this)
            clear hun hub
            go_wp2_with fail
            refine (hUi.out _).mono ?_
            rintro e w15 ⟨rfl, hb⟩
            replace R := R.all hb HB.size
            replace HB := HB.trans (hb.mono HB.size)
            clear hb
            go_wp2_with fail
            refine (hUs.out _).mono ?_
            rintro e w16 ⟨rfl, hb⟩
            replace R := R.all hb HB.size
            replace HB := HB.trans (hb.mono HB.size)
            clear hb
            cases ub
            · go_wp2
              go_ret
              exact ⟨ret_bool (by simp), HB⟩
            · go_wp2
              go_ret
              exact ⟨ret_bool (by simp), HB⟩
          · skip
            have hgg := hg
            have hIC : Hid (∀ (w : World) (A : Option Addr) (c : Nat), Rd w w.heap.size A xs.length c xs → Calls Try.prog 33 #[chartV W H (.slice A xs.length c)] w (Out w (.bool true))) := Lib.hid fun w A c h => (by have := implIsChart_any W H A _ c _ xs w h (Nat.le_refl _); rw [hgg] at this; exact this)
            have ebX0 := bX.cell 0
            have ebX1 := bX.cell 1
            have ebX2 := bX.cell 2
            have zbX := bX.lt
            go_wp2_with fail
            refine (hIC.out _ _ _ OX.rd).mono ?_
            rintro e w14 ⟨rfl, hb⟩
            clear ebX0 ebX1 ebX2 zbX
            replace OX := OX.all hb
            replace bX := bX.all hb
            replace R := R.all hb HB.size
            replace HB := HB.trans (hb.mono HB.size)
            clear hb
            clear hIC
            obtain ⟨fW, fH, fs, gW, gH, gs, hM1, hM2, hM3⟩ := moves_both hgg hbb hbn
            clear hbn hbb hgg hg
            have ebX0 := bX.cell 0
            have ebX1 := bX.cell 1
            have ebX2 := bX.cell 2
            have zbX := bX.lt
            go_wp2_with fail
            refine (hM1.out _ _ _ OX.rd).mono ?_
            rintro e w15 ⟨A5, c5, rfl, own, hb⟩
            clear ebX0 ebX1 ebX2 zbX
            replace OX := OX.all hb
            replace bX := bX.all hb
            replace R := R.all hb HB.size
            have OF := own.mono HB.size
            clear own
            replace HB := HB.trans (hb.mono HB.size)
            clear hb
            replace OX := OX.alloc (.cells #[.int .i64 fW, .int .i64 fH, .slice A5 fs.length c5] 26)
            replace OF := OF.alloc (.cells #[.int .i64 fW, .int .i64 fH, .slice A5 fs.length c5] 26)
            replace bX := bX.alloc (.cells #[.int .i64 fW, .int .i64 fH, .slice A5 fs.length c5] 26)
            replace R := R.alloc HB.size (.cells #[.int .i64 fW, .int .i64 fH, .slice A5 fs.length c5] 26)
            have bF := Blk.new w15 #[.int .i64 fW, .int .i64 fH, .slice A5 fs.length c5] 26
            replace HB := HB.alloc HB.size (.cells #[.int .i64 fW, .int .i64 fH, .slice A5 fs.length c5] 26)
            have ebX0 := bX.cell 0
            have ebX1 := bX.cell 1
            have ebX2 := bX.cell 2
            have zbX := bX.lt
            have ebF0 := bF.cell 0
            have ebF1 := bF.cell 1
            have ebF2 := bF.cell 2
            have zbF := bF.lt
            go_wp2_with fail
            refine (hM2.out _ _ _ OF.rd).mono ?_
            rintro e w16 ⟨A6, c6, rfl, own, hb⟩
            clear ebX0 ebX1 ebX2 zbX ebF0 ebF1 ebF2 zbF
            replace OX := OX.all hb
            replace OF := OF.all hb
            replace bX := bX.all hb
            replace bF := bF.all hb
            replace R := R.all hb HB.size
            have OG := own.mono HB.size
            clear own
            replace HB := HB.trans (hb.mono HB.size)
            clear hb
            replace OX := OX.alloc (.cells #[.int .i64 gW, .int .i64 gH, .slice A6 gs.length c6] 26)
            replace OF := OF.alloc (.cells #[.int .i64 gW, .int .i64 gH, .slice A6 gs.length c6] 26)
            replace OG := OG.alloc (.cells #[.int .i64 gW, .int .i64 gH, .slice A6 gs.length c6] 26)
            replace bX := bX.alloc (.cells #[.int .i64 gW, .int .i64 gH, .slice A6 gs.length c6] 26)
            replace bF := bF.alloc (.cells #[.int .i64 gW, .int .i64 gH, .slice A6 gs.length c6] 26)
            replace R := R.alloc HB.size (.cells #[.int .i64 gW, .int .i64 gH, .slice A6 gs.length c6] 26)
            have bG := Blk.new w16 #[.int .i64 gW, .int .i64 gH, .slice A6 gs.length c6] 26
            replace HB := HB.alloc HB.size (.cells #[.int .i64 gW, .int .i64 gH, .slice A6 gs.length c6] 26)
            have ebX0 := bX.cell 0
            have ebX1 := bX.cell 1
            have ebX2 := bX.cell 2
            have zbX := bX.lt
            have ebF0 := bF.cell 0
            have ebF1 := bF.cell 1
            have ebF2 := bF.cell 2
            have zbF := bF.lt
            have ebG0 := bG.cell 0
            have ebG1 := bG.cell 1
            have ebG2 := bG.cell 2
            have zbG := bG.lt
            go_wp2_with fail
            refine (hM3.out _ _ _ OX.rd).mono ?_
            rintro e w17 ⟨A7, c7, rfl, own, hb⟩
            clear ebX0 ebX1 ebX2 zbX ebF0 ebF1 ebF2 zbF ebG0 ebG1 ebG2 zbG
            replace OX := OX.all hb
            replace OF := OF.all hb
            replace OG := OG.all hb
            replace bX := bX.all hb
            replace bF := bF.all hb
            replace bG := bG.all hb
            replace R := R.all hb HB.size
            have OO := own.mono HB.size
            clear own
            replace HB := HB.trans (hb.mono HB.size)
            clear hb
            replace OX := OX.alloc (.cells #[.int .i64 gW, .int .i64 gH, .slice A7 gs.length c7] 26)
            replace OF := OF.alloc (.cells #[.int .i64 gW, .int .i64 gH, .slice A7 gs.length c7] 26)
            replace OG := OG.alloc (.cells #[.int .i64 gW, .int .i64 gH, .slice A7 gs.length c7] 26)
            replace OO := OO.alloc (.cells #[.int .i64 gW, .int .i64 gH, .slice A7 gs.length c7] 26)
            replace bX := bX.alloc (.cells #[.int .i64 gW, .int .i64 gH, .slice A7 gs.length c7] 26)
            replace bF := bF.alloc (.cells #[.int .i64 gW, .int .i64 gH, .slice A7 gs.length c7] 26)
            replace bG := bG.alloc (.cells #[.int .i64 gW, .int .i64 gH, .slice A7 gs.length c7] 26)
            replace R := R.alloc HB.size (.cells #[.int .i64 gW, .int .i64 gH, .slice A7 gs.length c7] 26)
            have bO := Blk.new w17 #[.int .i64 gW, .int .i64 gH, .slice A7 gs.length c7] 26
            replace HB := HB.alloc HB.size (.cells #[.int .i64 gW, .int .i64 gH, .slice A7 gs.length c7] 26)
            clear hM1 hM2 hM3
            have ebX0 := bX.cell 0
            have ebX1 := bX.cell 1
            have ebX2 := bX.cell 2
            have zbX := bX.lt
            have ebF0 := bF.cell 0
            have ebF1 := bF.cell 1
            have ebF2 := bF.cell 2
            have zbF := bF.lt
            have ebG0 := bG.cell 0
            have ebG1 := bG.cell 1
            have ebG2 := bG.cell 2
            have zbG := bG.lt
            have ebO0 := bO.cell 0
            have ebO1 := bO.cell 1
            have ebO2 := bO.cell 2
            have zbO := bO.lt
            go_wp2_with fail
            refine (vChart_same gW gH _ _ _ _ _ _ _ _ gs _ OG.rd OO.rd (Nat.le_refl _) (Nat.le_refl _)).mono ?_
            rintro e w18 ⟨rfl, hb⟩
            clear ebX0 ebX1 ebX2 zbX ebF0 ebF1 ebF2 zbF ebG0 ebG1 ebG2 zbG ebO0 ebO1 ebO2 zbO
            replace OX := OX.all hb
            replace OF := OF.all hb
            replace OG := OG.all hb
            replace OO := OO.all hb
            replace bX := bX.all hb
            replace bF := bF.all hb
            replace bG := bG.all hb
            replace bO := bO.all hb
            replace R := R.all hb HB.size
            replace HB := HB.trans (hb.mono HB.size)
            clear hb
            clear OF bF OG bG OO bO OX bX
            go_wp2_with fail
            refine (drawUndoOf_any A n c w.heap.size _ R HB.size hn).mono ?_
            rintro e w19 ⟨k, rfl, hk, hb⟩
            replace R := R.all hb HB.size
            replace HB := HB.trans (hb.mono HB.size)
            clear hb
            obtain ⟨un, hun⟩ : ∃ z, undoN k = z := ⟨_, rfl⟩
            obtain ⟨ub, hub⟩ : ∃ z, isSymB k = z := ⟨_, rfl⟩
            have hUi : Hid (∀ w : World, Calls Try.prog 25 #[.int .i64 k] w (Out w (.tuple #[.int .i64 un, .bool ub]))) := Lib.hid fun w => (by have := implUndoOf_any k w; rw [hun, hub] at this; exact this)
            have hUs : Hid (∀ w : World, Calls Try.prog 35 #[.int .i64 k] w (Out w (.tuple #[.int .i64 un, .bool ub]))) := Lib.hid fun w => (by have := specUndoOf_any k w; rw [hun, hub] at this; exact this)
            clear hun hub
            go_wp2_with fail
            refine (hUi.out _).mono ?_
            rintro e w20 ⟨rfl, hb⟩
            replace R := R.all hb HB.size
            replace HB := HB.trans (hb.mono HB.size)
            clear hb
            go_wp2_with fail
            refine (hUs.out _).mono ?_
            rintro e w21 ⟨rfl, hb⟩
            replace R := R.all hb HB.size
            replace HB := HB.trans (hb.mono HB.size)
            clear hb
            cases ub
            · go_wp2
              go_ret
              exact ⟨ret_bool (by simp), HB⟩
            · go_wp2
              go_ret
              exact ⟨ret_bool (by simp), HB⟩
  · go_enter Try.func4, Try.ntmps4
    go_wp2_with fail
    refine (vBig_eq A n c _ (by omega) true (by simp; omega)).mono ?_
    rintro e w' ⟨rfl, rfl⟩
    go_wp2
    go_ret
    exact ⟨rfl, HB⟩
end Go.Proofs.Ytihgobceahfpiaa
