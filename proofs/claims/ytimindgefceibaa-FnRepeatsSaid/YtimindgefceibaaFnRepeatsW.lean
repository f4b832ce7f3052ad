/- The walk of the law FnRepeats. No condition. -/
import Derived.Test.YtimindgefceibaaMgDraws
import Derived.Test.YtimindgefceibaaMgRep
import Derived.Test.YtimindgefceibaaMirSpec
import Derived.Test.YtimindgefceibaaTileSpec
import Derived.Test.YtimindgefceibaaDropS
import Derived.Test.YtimindgefceibaaDropI
import Derived.BigQuiet
import Derived.Deep.CutRange
namespace Go.Proofs.Ytimindgefceibaa
open Go.RowKit

theorem Blk.drewQ {w : World} {p : Nat} {t : TypeId} {cs : Array Value} (h : Blk w p t cs) (q : Nat) : Blk (w.drewN q) p t cs := h
theorem RdB.drewQ {w : World} {B n c : Nat} {A : Option Addr} (h : RdB w B A n c) (q : Nat) : RdB (w.drewN q) B A n c := ⟨h.cap, h.max, h.cells⟩
set_option maxRecDepth 100000 in
set_option maxHeartbeats 16000000 in
theorem fnRepeats_walk (w : World) (A : Option Addr) (n c : Nat) (R : RdB w w.heap.size A n c) : Calls Try.prog 3 #[.slice A n c] w fun e w' => e = .returned (.bool true) ∧ Below w.heap.size w w' := by
  have hcap := R.cap
  have hmax := R.max
  unfold maxLen at hmax
  have HB := Below.refl w.heap.size w
  by_cases hn : n ≤ 65536
  · go_enter Try.func3, Try.ntmps3
    go_wp2_with fail
    refine (vBig_eq A n c _ (by omega) false (by simp; omega)).mono ?_
    rintro e w' ⟨rfl, rfl⟩
    go_wp2_with fail
    refine (drawRepeatMotif_any A n c w.heap.size _ R HB.size hn).mono ?_
    rintro e w1 ⟨W, H, A2, c2, xs, a, d, rfl, hsm, ha, hd, own, hb⟩
    replace R := R.all hb HB.size
    have OX := own.mono HB.size
    clear own
    replace HB := HB.trans (hb.mono HB.size)
    clear hb
    replace OX := OX.alloc (.cells #[.int .i64 W, .int .i64 H, .slice A2 xs.length c2] 26)
    replace R := R.alloc HB.size (.cells #[.int .i64 W, .int .i64 H, .slice A2 xs.length c2] 26)
    have bX := Blk.new w1 #[.int .i64 W, .int .i64 H, .slice A2 xs.length c2] 26
    replace HB := HB.alloc HB.size (.cells #[.int .i64 W, .int .i64 H, .slice A2 xs.length c2] 26)
    clear hsm
    obtain ⟨ro, hro⟩ : ∃ z, repAll W H xs a d = z := ⟨_, rfl⟩
    obtain ⟨rx, hrx⟩ : ∃ z, repX W H xs a d = z := ⟨_, rfl⟩
    obtain ⟨rw_, hrw_⟩ : ∃ z, orZero (repAll W H xs a d) (a * W) = z := ⟨_, rfl⟩
    obtain ⟨rh, hrh⟩ : ∃ z, orZero (repAll W H xs a d) (d * H) = z := ⟨_, rfl⟩
    have hRi : Hid (∀ (w : World) (A : Option Addr) (c : Nat), Rd w w.heap.size A xs.length c xs → Calls Try.prog 7 #[chartV W H (.slice A xs.length c), .int .i64 a, .int .i64 d] w (OutChart w rw_ rh rx ro)) := Lib.hid fun w A c hrd => (by have := implRepeatMotif_any W H A _ c _ xs a d w hrd (Nat.le_refl _); rw [hrw_, hrh, hrx, hro] at this; exact this)
    have hRs : Hid (∀ (w : World) (A : Option Addr) (c : Nat), Rd w w.heap.size A xs.length c xs → Calls Try.prog 8 #[chartV W H (.slice A xs.length c), .int .i64 a, .int .i64 d] w (OutChart w rw_ rh rx ro)) := Lib.hid fun w A c hrd => (by have := specRepeatMotif_any W H A _ c _ xs a d w hrd (Nat.le_refl _); rw [hrw_, hrh, hrx, hro] at this; exact this)
    have HRB : Hid (ro = true → rw_ = a * W ∧ rh = d * H ∧ RepFacts W H xs a d rx (placesX (a * W) (d * H) rx W H xs)) := Lib.hid fun ht => by
      rw [hro, ht] at hrw_ hrh
      have := rep_facts (hro.trans ht)
      rw [hrx] at this
      exact ⟨hrw_.symm, hrh.symm, this⟩
    clear hro hrx hrw_ hrh
    have ebX0 := bX.cell 0
    have ebX1 := bX.cell 1
    have ebX2 := bX.cell 2
    have zbX := bX.lt
    go_wp2_with fail
    refine (hRi.out _ _ _ OX.rd).mono ?_
    rintro e w2 ⟨A3, c3, rfl, own, hb⟩
    clear ebX0 ebX1 ebX2 zbX
    replace OX := OX.all hb
    replace bX := bX.all hb
    replace R := R.all hb HB.size
    have OA := own.mono HB.size
    clear own
    replace HB := HB.trans (hb.mono HB.size)
    clear hb
    replace OX := OX.alloc (.cells #[.int .i64 rw_, .int .i64 rh, .slice A3 rx.length c3] 26)
    replace OA := OA.alloc (.cells #[.int .i64 rw_, .int .i64 rh, .slice A3 rx.length c3] 26)
    replace bX := bX.alloc (.cells #[.int .i64 rw_, .int .i64 rh, .slice A3 rx.length c3] 26)
    replace R := R.alloc HB.size (.cells #[.int .i64 rw_, .int .i64 rh, .slice A3 rx.length c3] 26)
    have bA := Blk.new w2 #[.int .i64 rw_, .int .i64 rh, .slice A3 rx.length c3] 26
    replace HB := HB.alloc HB.size (.cells #[.int .i64 rw_, .int .i64 rh, .slice A3 rx.length c3] 26)
    have ebX0 := bX.cell 0
    have ebX1 := bX.cell 1
    have ebX2 := bX.cell 2
    have zbX := bX.lt
    have ebA0 := bA.cell 0
    have ebA1 := bA.cell 1
    have ebA2 := bA.cell 2
    have zbA := bA.lt
    go_wp2_with fail
    refine (hRs.out _ _ _ OX.rd).mono ?_
    rintro e w3 ⟨A4, c4, rfl, own, hb⟩
    clear ebX0 ebX1 ebX2 zbX ebA0 ebA1 ebA2 zbA
    replace OX := OX.all hb
    replace OA := OA.all hb
    replace bX := bX.all hb
    replace bA := bA.all hb
    replace R := R.all hb HB.size
    have OB := own.mono HB.size
    clear own
    replace HB := HB.trans (hb.mono HB.size)
    clear hb
    replace OX := OX.alloc (.cells #[.int .i64 rw_, .int .i64 rh, .slice A4 rx.length c4] 26)
    replace OA := OA.alloc (.cells #[.int .i64 rw_, .int .i64 rh, .slice A4 rx.length c4] 26)
    replace OB := OB.alloc (.cells #[.int .i64 rw_, .int .i64 rh, .slice A4 rx.length c4] 26)
    replace bX := bX.alloc (.cells #[.int .i64 rw_, .int .i64 rh, .slice A4 rx.length c4] 26)
    replace bA := bA.alloc (.cells #[.int .i64 rw_, .int .i64 rh, .slice A4 rx.length c4] 26)
    replace R := R.alloc HB.size (.cells #[.int .i64 rw_, .int .i64 rh, .slice A4 rx.length c4] 26)
    have bB := Blk.new w3 #[.int .i64 rw_, .int .i64 rh, .slice A4 rx.length c4] 26
    replace HB := HB.alloc HB.size (.cells #[.int .i64 rw_, .int .i64 rh, .slice A4 rx.length c4] 26)
    clear hRi hRs
    have ebX0 := bX.cell 0
    have ebX1 := bX.cell 1
    have ebX2 := bX.cell 2
    have zbX := bX.lt
    have ebA0 := bA.cell 0
    have ebA1 := bA.cell 1
    have ebA2 := bA.cell 2
    have zbA := bA.lt
    have ebB0 := bB.cell 0
    have ebB1 := bB.cell 1
    have ebB2 := bB.cell 2
    have zbB := bB.lt
    go_upto_region 6 with fail
    go_cut [63] from 55 to 63 (fun t wx => t = .bool false ∧ Below (w3.alloc (.cells #[.int .i64 rw_, .int .i64 rh, .slice A4 rx.length c4] 26)).heap.size (w3.alloc (.cells #[.int .i64 rw_, .int .i64 rh, .slice A4 rx.length c4] 26)) wx)
    case first =>
      go_wp2_with fail
      refine (vChart_same rw_ rh _ _ _ _ _ _ _ _ rx _ OA.rd OB.rd (Nat.le_refl _) (Nat.le_refl _)).mono ?_
      rintro e wb ⟨rfl, hb⟩
      go_wp2_with fail
      go_meet
      exact ⟨rfl, hb⟩
    case rest =>
      obtain ⟨rfl, hb⟩ := hcut
      obtain ⟨w4, hw⟩ : ∃ w4, w4 = wc := ⟨_, rfl⟩
      subst hw
      clear ebX0 ebX1 ebX2 zbX ebA0 ebA1 ebA2 zbA ebB0 ebB1 ebB2 zbB
      replace OX := OX.all hb
      replace OA := OA.all hb
      replace OB := OB.all hb
      replace bX := bX.all hb
      replace bA := bA.all hb
      replace bB := bB.all hb
      replace R := R.all hb HB.size
      replace HB := HB.trans (hb.mono HB.size)
      clear hb
      clear OB bB
      cases ro
      · clear HRB ha hd
        clear OX OA bX bA
        go_wp2_with fail
        refine (drawMirrorRepeat_any A n c w.heap.size _ R HB.size hn).mono ?_
        rintro e w5 ⟨W, H, A2, c2, xs, s, rfl, hsm, hs, own, hb⟩
        replace R := R.all hb HB.size
        have OX := own.mono HB.size
        clear own
        replace HB := HB.trans (hb.mono HB.size)
        clear hb
        replace OX := OX.alloc (.cells #[.int .i64 W, .int .i64 H, .slice A2 xs.length c2] 26)
        replace R := R.alloc HB.size (.cells #[.int .i64 W, .int .i64 H, .slice A2 xs.length c2] 26)
        have bX := Blk.new w5 #[.int .i64 W, .int .i64 H, .slice A2 xs.length c2] 26
        replace HB := HB.alloc HB.size (.cells #[.int .i64 W, .int .i64 H, .slice A2 xs.length c2] 26)
        clear hsm
        obtain ⟨mo, hmo⟩ : ∃ z, mirAll W H xs s = z := ⟨_, rfl⟩
        obtain ⟨mx, hmx⟩ : ∃ z, mirX W H xs s = z := ⟨_, rfl⟩
        obtain ⟨mw, hmw⟩ : ∃ z, orZero (mirAll W H xs s) (s * W) = z := ⟨_, rfl⟩
        obtain ⟨mh, hmh⟩ : ∃ z, orZero (mirAll W H xs s) H = z := ⟨_, rfl⟩
        have hMi : Hid (∀ (w : World) (A : Option Addr) (c : Nat), Rd w w.heap.size A xs.length c xs → Calls Try.prog 14 #[chartV W H (.slice A xs.length c), .int .i64 s] w (OutChart w mw mh mx mo)) := Lib.hid fun w A c hrd => (by have := implMirrorRepeat_any W H A _ c _ xs s w hrd (Nat.le_refl _); rw [hmw, hmh, hmx, hmo] at this; exact this)
        have hMs : Hid (∀ (w : World) (A : Option Addr) (c : Nat), Rd w w.heap.size A xs.length c xs → Calls Try.prog 15 #[chartV W H (.slice A xs.length c), .int .i64 s] w (OutChart w mw mh mx mo)) := Lib.hid fun w A c hrd => (by have := specMirrorRepeat_any W H A _ c _ xs s w hrd (Nat.le_refl _); rw [hmw, hmh, hmx, hmo] at this; exact this)
        have HMB : Hid (mo = true → s.tmod 2 = 0 → hasB mw mh mx 4 = true ∧ moveOk mw mh mx 4 = true) := Lib.hid fun ht he => by
          rw [hmo, ht] at hmw hmh
          have := mir_facts (hmo.trans ht) he
          rw [hmx] at this
          rw [← hmw, ← hmh]
          exact this
        clear hmo hmx hmw hmh
        have ebX0 := bX.cell 0
        have ebX1 := bX.cell 1
        have ebX2 := bX.cell 2
        have zbX := bX.lt
        go_wp2_with fail
        refine (hMi.out _ _ _ OX.rd).mono ?_
        rintro e w6 ⟨A3, c3, rfl, own, hb⟩
        clear ebX0 ebX1 ebX2 zbX
        replace OX := OX.all hb
        replace bX := bX.all hb
        replace R := R.all hb HB.size
        have OA := own.mono HB.size
        clear own
        replace HB := HB.trans (hb.mono HB.size)
        clear hb
        replace OX := OX.alloc (.cells #[.int .i64 mw, .int .i64 mh, .slice A3 mx.length c3] 26)
        replace OA := OA.alloc (.cells #[.int .i64 mw, .int .i64 mh, .slice A3 mx.length c3] 26)
        replace bX := bX.alloc (.cells #[.int .i64 mw, .int .i64 mh, .slice A3 mx.length c3] 26)
        replace R := R.alloc HB.size (.cells #[.int .i64 mw, .int .i64 mh, .slice A3 mx.length c3] 26)
        have bA := Blk.new w6 #[.int .i64 mw, .int .i64 mh, .slice A3 mx.length c3] 26
        replace HB := HB.alloc HB.size (.cells #[.int .i64 mw, .int .i64 mh, .slice A3 mx.length c3] 26)
        have ebX0 := bX.cell 0
        have ebX1 := bX.cell 1
        have ebX2 := bX.cell 2
        have zbX := bX.lt
        have ebA0 := bA.cell 0
        have ebA1 := bA.cell 1
        have ebA2 := bA.cell 2
        have zbA := bA.lt
        go_wp2_with fail
        refine (hMs.out _ _ _ OX.rd).mono ?_
        rintro e w7 ⟨A4, c4, rfl, own, hb⟩
        clear ebX0 ebX1 ebX2 zbX ebA0 ebA1 ebA2 zbA
        replace OX := OX.all hb
        replace OA := OA.all hb
        replace bX := bX.all hb
        replace bA := bA.all hb
        replace R := R.all hb HB.size
        have OB := own.mono HB.size
        clear own
        replace HB := HB.trans (hb.mono HB.size)
        clear hb
        replace OX := OX.alloc (.cells #[.int .i64 mw, .int .i64 mh, .slice A4 mx.length c4] 26)
        replace OA := OA.alloc (.cells #[.int .i64 mw, .int .i64 mh, .slice A4 mx.length c4] 26)
        replace OB := OB.alloc (.cells #[.int .i64 mw, .int .i64 mh, .slice A4 mx.length c4] 26)
        replace bX := bX.alloc (.cells #[.int .i64 mw, .int .i64 mh, .slice A4 mx.length c4] 26)
        replace bA := bA.alloc (.cells #[.int .i64 mw, .int .i64 mh, .slice A4 mx.length c4] 26)
        replace R := R.alloc HB.size (.cells #[.int .i64 mw, .int .i64 mh, .slice A4 mx.length c4] 26)
        have bB := Blk.new w7 #[.int .i64 mw, .int .i64 mh, .slice A4 mx.length c4] 26
        replace HB := HB.alloc HB.size (.cells #[.int .i64 mw, .int .i64 mh, .slice A4 mx.length c4] 26)
        clear hMi hMs
        have ebX0 := bX.cell 0
        have ebX1 := bX.cell 1
        have ebX2 := bX.cell 2
        have zbX := bX.lt
        have ebA0 := bA.cell 0
        have ebA1 := bA.cell 1
        have ebA2 := bA.cell 2
        have zbA := bA.lt
        have ebB0 := bB.cell 0
        have ebB1 := bB.cell 1
        have ebB2 := bB.cell 2
        have zbB := bB.lt
        go_upto_region 30 with fail
        go_cut [180] from 172 to 180 (fun t wx => t = .bool false ∧ Below (w7.alloc (.cells #[.int .i64 mw, .int .i64 mh, .slice A4 mx.length c4] 26)).heap.size (w7.alloc (.cells #[.int .i64 mw, .int .i64 mh, .slice A4 mx.length c4] 26)) wx)
        case first =>
          go_wp2_with fail
          refine (vChart_same mw mh _ _ _ _ _ _ _ _ mx _ OA.rd OB.rd (Nat.le_refl _) (Nat.le_refl _)).mono ?_
          rintro e wb ⟨rfl, hb⟩
          go_wp2_with fail
          go_meet
          exact ⟨rfl, hb⟩
        case rest =>
          obtain ⟨rfl, hb⟩ := hcut
          obtain ⟨w8, hw⟩ : ∃ w8, w8 = wc := ⟨_, rfl⟩
          subst hw
          clear ebX0 ebX1 ebX2 zbX ebA0 ebA1 ebA2 zbA ebB0 ebB1 ebB2 zbB
          replace OX := OX.all hb
          replace OA := OA.all hb
          replace OB := OB.all hb
          replace bX := bX.all hb
          replace bA := bA.all hb
          replace bB := bB.all hb
          replace R := R.all hb HB.size
          replace HB := HB.trans (hb.mono HB.size)
          clear hb
          clear OB bB OX bX
          cases mo
          · clear HMB hs
            clear OA bA
            go_wp2_with fail
            refine (drawHalfDrop_any A n c w.heap.size _ R HB.size hn).mono ?_
            rintro e w9 ⟨W, H, A2, c2, xs, rfl, hsm, own, hb⟩
            replace R := R.all hb HB.size
            have OX := own.mono HB.size
            clear own
            replace HB := HB.trans (hb.mono HB.size)
            clear hb
            replace OX := OX.alloc (.cells #[.int .i64 W, .int .i64 H, .slice A2 xs.length c2] 26)
            replace R := R.alloc HB.size (.cells #[.int .i64 W, .int .i64 H, .slice A2 xs.length c2] 26)
            have bX := Blk.new w9 #[.int .i64 W, .int .i64 H, .slice A2 xs.length c2] 26
            replace HB := HB.alloc HB.size (.cells #[.int .i64 W, .int .i64 H, .slice A2 xs.length c2] 26)
            clear hsm
            obtain ⟨do_, hdo_⟩ : ∃ z, drpAll W H xs = z := ⟨_, rfl⟩
            obtain ⟨dx, hdx⟩ : ∃ z, drpX W H xs = z := ⟨_, rfl⟩
            obtain ⟨dw, hdw⟩ : ∃ z, orZero (drpAll W H xs) (2 * W) = z := ⟨_, rfl⟩
            obtain ⟨dh, hdh⟩ : ∃ z, orZero (drpAll W H xs) H = z := ⟨_, rfl⟩
            have hDi : Hid (∀ (w : World) (A : Option Addr) (c : Nat), Rd w w.heap.size A xs.length c xs → Calls Try.prog 18 #[chartV W H (.slice A xs.length c)] w (OutChart w dw dh dx do_)) := Lib.hid fun w A c hrd => (by have := implHalfDrop_any W H A _ c _ xs w hrd (Nat.le_refl _); rw [hdw, hdh, hdx, hdo_] at this; exact this)
            have hDs : Hid (∀ (w : World) (A : Option Addr) (c : Nat), Rd w w.heap.size A xs.length c xs → Calls Try.prog 19 #[chartV W H (.slice A xs.length c)] w (OutChart w dw dh dx do_)) := Lib.hid fun w A c hrd => (by have := specHalfDrop_any W H A _ c _ xs w hrd (Nat.le_refl _); rw [hdw, hdh, hdx, hdo_] at this; exact this)
            clear hdo_ hdx hdw hdh
            have ebX0 := bX.cell 0
            have ebX1 := bX.cell 1
            have ebX2 := bX.cell 2
            have zbX := bX.lt
            go_wp2_with fail
            refine (hDi.out _ _ _ OX.rd).mono ?_
            rintro e w10 ⟨A3, c3, rfl, own, hb⟩
            clear ebX0 ebX1 ebX2 zbX
            replace OX := OX.all hb
            replace bX := bX.all hb
            replace R := R.all hb HB.size
            have OA := own.mono HB.size
            clear own
            replace HB := HB.trans (hb.mono HB.size)
            clear hb
            replace OX := OX.alloc (.cells #[.int .i64 dw, .int .i64 dh, .slice A3 dx.length c3] 26)
            replace OA := OA.alloc (.cells #[.int .i64 dw, .int .i64 dh, .slice A3 dx.length c3] 26)
            replace bX := bX.alloc (.cells #[.int .i64 dw, .int .i64 dh, .slice A3 dx.length c3] 26)
            replace R := R.alloc HB.size (.cells #[.int .i64 dw, .int .i64 dh, .slice A3 dx.length c3] 26)
            have bA := Blk.new w10 #[.int .i64 dw, .int .i64 dh, .slice A3 dx.length c3] 26
            replace HB := HB.alloc HB.size (.cells #[.int .i64 dw, .int .i64 dh, .slice A3 dx.length c3] 26)
            have ebX0 := bX.cell 0
            have ebX1 := bX.cell 1
            have ebX2 := bX.cell 2
            have zbX := bX.lt
            have ebA0 := bA.cell 0
            have ebA1 := bA.cell 1
            have ebA2 := bA.cell 2
            have zbA := bA.lt
            go_wp2_with fail
            refine (hDs.out _ _ _ OX.rd).mono ?_
            rintro e w11 ⟨A4, c4, rfl, own, hb⟩
            clear ebX0 ebX1 ebX2 zbX ebA0 ebA1 ebA2 zbA
            replace OX := OX.all hb
            replace OA := OA.all hb
            replace bX := bX.all hb
            replace bA := bA.all hb
            replace R := R.all hb HB.size
            have OB := own.mono HB.size
            clear own
            replace HB := HB.trans (hb.mono HB.size)
            clear hb
            replace OX := OX.alloc (.cells #[.int .i64 dw, .int .i64 dh, .slice A4 dx.length c4] 26)
            replace OA := OA.alloc (.cells #[.int .i64 dw, .int .i64 dh, .slice A4 dx.length c4] 26)
            replace OB := OB.alloc (.cells #[.int .i64 dw, .int .i64 dh, .slice A4 dx.length c4] 26)
            replace bX := bX.alloc (.cells #[.int .i64 dw, .int .i64 dh, .slice A4 dx.length c4] 26)
            replace bA := bA.alloc (.cells #[.int .i64 dw, .int .i64 dh, .slice A4 dx.length c4] 26)
            replace R := R.alloc HB.size (.cells #[.int .i64 dw, .int .i64 dh, .slice A4 dx.length c4] 26)
            have bB := Blk.new w11 #[.int .i64 dw, .int .i64 dh, .slice A4 dx.length c4] 26
            replace HB := HB.alloc HB.size (.cells #[.int .i64 dw, .int .i64 dh, .slice A4 dx.length c4] 26)
            clear hDi hDs
            have ebX0 := bX.cell 0
            have ebX1 := bX.cell 1
            have ebX2 := bX.cell 2
            have zbX := bX.lt
            have ebA0 := bA.cell 0
            have ebA1 := bA.cell 1
            have ebA2 := bA.cell 2
            have zbA := bA.lt
            have ebB0 := bB.cell 0
            have ebB1 := bB.cell 1
            have ebB2 := bB.cell 2
            have zbB := bB.lt
            go_wp2_with fail
            refine (vChart_same dw dh _ _ _ _ _ _ _ _ dx _ OA.rd OB.rd (Nat.le_refl _) (Nat.le_refl _)).mono ?_
            rintro e wb ⟨rfl, hb⟩
            replace HB := HB.trans (hb.mono HB.size)
            clear hb ebX0 ebX1 ebX2 zbX ebA0 ebA1 ebA2 zbA ebB0 ebB1 ebB2 zbB
            go_wp2
            go_ret
            exact ⟨ret_bool (by simp), HB⟩
          · by_cases he : s.tmod 2 = 0
            · obtain ⟨f1, f2⟩ := HMB.out rfl he
              have hHs : Hid (∀ (w : World) (A : Option Addr) (c : Nat), Rd w w.heap.size A mx.length c mx → Calls Try.prog 16 #[chartV mw mh (.slice A mx.length c), .int .i64 4] w (Out w (.tuple #[.bool true, .bool true]))) := Lib.hid fun w A c hrd => (by have := implHasSymmetry_any mw mh A _ c _ mx 4 w hrd (Nat.le_refl _); rw [f1, f2] at this; exact this)
              clear f1 f2 HMB
              have ebA0 := bA.cell 0
              have ebA1 := bA.cell 1
              have ebA2 := bA.cell 2
              have zbA := bA.lt
              go_wp2_with fail
              refine (hHs.out _ _ _ OA.rd).mono ?_
              rintro e w9 ⟨rfl, hb⟩
              clear ebA0 ebA1 ebA2 zbA
              replace OA := OA.all hb
              replace bA := bA.all hb
              replace R := R.all hb HB.size
              replace HB := HB.trans (hb.mono HB.size)
              clear hb
              clear hHs hs
              clear OA bA
              go_wp2_with fail
              refine (drawHalfDrop_any A n c w.heap.size _ R HB.size hn).mono ?_
              rintro e w10 ⟨W, H, A2, c2, xs, rfl, hsm, own, hb⟩
              replace R := R.all hb HB.size
              have OX := own.mono HB.size
              clear own
              replace HB := HB.trans (hb.mono HB.size)
              clear hb
              replace OX := OX.alloc (.cells #[.int .i64 W, .int .i64 H, .slice A2 xs.length c2] 26)
              replace R := R.alloc HB.size (.cells #[.int .i64 W, .int .i64 H, .slice A2 xs.length c2] 26)
              have bX := Blk.new w10 #[.int .i64 W, .int .i64 H, .slice A2 xs.length c2] 26
              replace HB := HB.alloc HB.size (.cells #[.int .i64 W, .int .i64 H, .slice A2 xs.length c2] 26)
              clear hsm
              obtain ⟨do_, hdo_⟩ : ∃ z, drpAll W H xs = z := ⟨_, rfl⟩
              obtain ⟨dx, hdx⟩ : ∃ z, drpX W H xs = z := ⟨_, rfl⟩
              obtain ⟨dw, hdw⟩ : ∃ z, orZero (drpAll W H xs) (2 * W) = z := ⟨_, rfl⟩
              obtain ⟨dh, hdh⟩ : ∃ z, orZero (drpAll W H xs) H = z := ⟨_, rfl⟩
              have hDi : Hid (∀ (w : World) (A : Option Addr) (c : Nat), Rd w w.heap.size A xs.length c xs → Calls Try.prog 18 #[chartV W H (.slice A xs.length c)] w (OutChart w dw dh dx do_)) := Lib.hid fun w A c hrd => (by have := implHalfDrop_any W H A _ c _ xs w hrd (Nat.le_refl _); rw [hdw, hdh, hdx, hdo_] at this; exact this)
              have hDs : Hid (∀ (w : World) (A : Option Addr) (c : Nat), Rd w w.heap.size A xs.length c xs → Calls Try.prog 19 #[chartV W H (.slice A xs.length c)] w (OutChart w dw dh dx do_)) := Lib.hid fun w A c hrd => (by have := specHalfDrop_any W H A _ c _ xs w hrd (Nat.le_refl _); rw [hdw, hdh, hdx, hdo_] at this; exact this)
              clear hdo_ hdx hdw hdh
              have ebX0 := bX.cell 0
              have ebX1 := bX.cell 1
              have ebX2 := bX.cell 2
              have zbX := bX.lt
              go_wp2_with fail
              refine (hDi.out _ _ _ OX.rd).mono ?_
              rintro e w11 ⟨A3, c3, rfl, own, hb⟩
              clear ebX0 ebX1 ebX2 zbX
              replace OX := OX.all hb
              replace bX := bX.all hb
              replace R := R.all hb HB.size
              have OA := own.mono HB.size
              clear own
              replace HB := HB.trans (hb.mono HB.size)
              clear hb
              replace OX := OX.alloc (.cells #[.int .i64 dw, .int .i64 dh, .slice A3 dx.length c3] 26)
              replace OA := OA.alloc (.cells #[.int .i64 dw, .int .i64 dh, .slice A3 dx.length c3] 26)
              replace bX := bX.alloc (.cells #[.int .i64 dw, .int .i64 dh, .slice A3 dx.length c3] 26)
              replace R := R.alloc HB.size (.cells #[.int .i64 dw, .int .i64 dh, .slice A3 dx.length c3] 26)
              have bA := Blk.new w11 #[.int .i64 dw, .int .i64 dh, .slice A3 dx.length c3] 26
              replace HB := HB.alloc HB.size (.cells #[.int .i64 dw, .int .i64 dh, .slice A3 dx.length c3] 26)
              have ebX0 := bX.cell 0
              have ebX1 := bX.cell 1
              have ebX2 := bX.cell 2
              have zbX := bX.lt
              have ebA0 := bA.cell 0
              have ebA1 := bA.cell 1
              have ebA2 := bA.cell 2
              have zbA := bA.lt
              go_wp2_with fail
              refine (hDs.out _ _ _ OX.rd).mono ?_
              rintro e w12 ⟨A4, c4, rfl, own, hb⟩
              clear ebX0 ebX1 ebX2 zbX ebA0 ebA1 ebA2 zbA
              replace OX := OX.all hb
              replace OA := OA.all hb
              replace bX := bX.all hb
              replace bA := bA.all hb
              replace R := R.all hb HB.size
              have OB := own.mono HB.size
              clear own
              replace HB := HB.trans (hb.mono HB.size)
              clear hb
              replace OX := OX.alloc (.cells #[.int .i64 dw, .int .i64 dh, .slice A4 dx.length c4] 26)
              replace OA := OA.alloc (.cells #[.int .i64 dw, .int .i64 dh, .slice A4 dx.length c4] 26)
              replace OB := OB.alloc (.cells #[.int .i64 dw, .int .i64 dh, .slice A4 dx.length c4] 26)
              replace bX := bX.alloc (.cells #[.int .i64 dw, .int .i64 dh, .slice A4 dx.length c4] 26)
              replace bA := bA.alloc (.cells #[.int .i64 dw, .int .i64 dh, .slice A4 dx.length c4] 26)
              replace R := R.alloc HB.size (.cells #[.int .i64 dw, .int .i64 dh, .slice A4 dx.length c4] 26)
              have bB := Blk.new w12 #[.int .i64 dw, .int .i64 dh, .slice A4 dx.length c4] 26
              replace HB := HB.alloc HB.size (.cells #[.int .i64 dw, .int .i64 dh, .slice A4 dx.length c4] 26)
              clear hDi hDs
              have ebX0 := bX.cell 0
              have ebX1 := bX.cell 1
              have ebX2 := bX.cell 2
              have zbX := bX.lt
              have ebA0 := bA.cell 0
              have ebA1 := bA.cell 1
              have ebA2 := bA.cell 2
              have zbA := bA.lt
              have ebB0 := bB.cell 0
              have ebB1 := bB.cell 1
              have ebB2 := bB.cell 2
              have zbB := bB.lt
              go_wp2_with fail
              refine (vChart_same dw dh _ _ _ _ _ _ _ _ dx _ OA.rd OB.rd (Nat.le_refl _) (Nat.le_refl _)).mono ?_
              rintro e wb ⟨rfl, hb⟩
              replace HB := HB.trans (hb.mono HB.size)
              clear hb ebX0 ebX1 ebX2 zbX ebA0 ebA1 ebA2 zbA ebB0 ebB1 ebB2 zbB
              go_wp2
              go_ret
              exact ⟨ret_bool (by simp), HB⟩
            · clear HMB
              clear OA bA
              go_wp2_with fail
              refine (drawHalfDrop_any A n c w.heap.size _ R HB.size hn).mono ?_
              rintro e w9 ⟨W, H, A2, c2, xs, rfl, hsm, own, hb⟩
              replace R := R.all hb HB.size
              have OX := own.mono HB.size
              clear own
              replace HB := HB.trans (hb.mono HB.size)
              clear hb
              replace OX := OX.alloc (.cells #[.int .i64 W, .int .i64 H, .slice A2 xs.length c2] 26)
              replace R := R.alloc HB.size (.cells #[.int .i64 W, .int .i64 H, .slice A2 xs.length c2] 26)
              have bX := Blk.new w9 #[.int .i64 W, .int .i64 H, .slice A2 xs.length c2] 26
              replace HB := HB.alloc HB.size (.cells #[.int .i64 W, .int .i64 H, .slice A2 xs.length c2] 26)
              clear hsm
              obtain ⟨do_, hdo_⟩ : ∃ z, drpAll W H xs = z := ⟨_, rfl⟩
              obtain ⟨dx, hdx⟩ : ∃ z, drpX W H xs = z := ⟨_, rfl⟩
              obtain ⟨dw, hdw⟩ : ∃ z, orZero (drpAll W H xs) (2 * W) = z := ⟨_, rfl⟩
              obtain ⟨dh, hdh⟩ : ∃ z, orZero (drpAll W H xs) H = z := ⟨_, rfl⟩
              have hDi : Hid (∀ (w : World) (A : Option Addr) (c : Nat), Rd w w.heap.size A xs.length c xs → Calls Try.prog 18 #[chartV W H (.slice A xs.length c)] w (OutChart w dw dh dx do_)) := Lib.hid fun w A c hrd => (by have := implHalfDrop_any W H A _ c _ xs w hrd (Nat.le_refl _); rw [hdw, hdh, hdx, hdo_] at this; exact this)
              have hDs : Hid (∀ (w : World) (A : Option Addr) (c : Nat), Rd w w.heap.size A xs.length c xs → Calls Try.prog 19 #[chartV W H (.slice A xs.length c)] w (OutChart w dw dh dx do_)) := Lib.hid fun w A c hrd => (by have := specHalfDrop_any W H A _ c _ xs w hrd (Nat.le_refl _); rw [hdw, hdh, hdx, hdo_] at this; exact this)
              clear hdo_ hdx hdw hdh
              have ebX0 := bX.cell 0
              have ebX1 := bX.cell 1
              have ebX2 := bX.cell 2
              have zbX := bX.lt
              go_wp2_with fail
              refine (hDi.out _ _ _ OX.rd).mono ?_
              rintro e w10 ⟨A3, c3, rfl, own, hb⟩
              clear ebX0 ebX1 ebX2 zbX
              replace OX := OX.all hb
              replace bX := bX.all hb
              replace R := R.all hb HB.size
              have OA := own.mono HB.size
              clear own
              replace HB := HB.trans (hb.mono HB.size)
              clear hb
              replace OX := OX.alloc (.cells #[.int .i64 dw, .int .i64 dh, .slice A3 dx.length c3] 26)
              replace OA := OA.alloc (.cells #[.int .i64 dw, .int .i64 dh, .slice A3 dx.length c3] 26)
              replace bX := bX.alloc (.cells #[.int .i64 dw, .int .i64 dh, .slice A3 dx.length c3] 26)
              replace R := R.alloc HB.size (.cells #[.int .i64 dw, .int .i64 dh, .slice A3 dx.length c3] 26)
              have bA := Blk.new w10 #[.int .i64 dw, .int .i64 dh, .slice A3 dx.length c3] 26
              replace HB := HB.alloc HB.size (.cells #[.int .i64 dw, .int .i64 dh, .slice A3 dx.length c3] 26)
              have ebX0 := bX.cell 0
              have ebX1 := bX.cell 1
              have ebX2 := bX.cell 2
              have zbX := bX.lt
              have ebA0 := bA.cell 0
              have ebA1 := bA.cell 1
              have ebA2 := bA.cell 2
              have zbA := bA.lt
              go_wp2_with fail
              refine (hDs.out _ _ _ OX.rd).mono ?_
              rintro e w11 ⟨A4, c4, rfl, own, hb⟩
              clear ebX0 ebX1 ebX2 zbX ebA0 ebA1 ebA2 zbA
              replace OX := OX.all hb
              replace OA := OA.all hb
              replace bX := bX.all hb
              replace bA := bA.all hb
              replace R := R.all hb HB.size
              have OB := own.mono HB.size
              clear own
              replace HB := HB.trans (hb.mono HB.size)
              clear hb
              replace OX := OX.alloc (.cells #[.int .i64 dw, .int .i64 dh, .slice A4 dx.length c4] 26)
              replace OA := OA.alloc (.cells #[.int .i64 dw, .int .i64 dh, .slice A4 dx.length c4] 26)
              replace OB := OB.alloc (.cells #[.int .i64 dw, .int .i64 dh, .slice A4 dx.length c4] 26)
              replace bX := bX.alloc (.cells #[.int .i64 dw, .int .i64 dh, .slice A4 dx.length c4] 26)
              replace bA := bA.alloc (.cells #[.int .i64 dw, .int .i64 dh, .slice A4 dx.length c4] 26)
              replace R := R.alloc HB.size (.cells #[.int .i64 dw, .int .i64 dh, .slice A4 dx.length c4] 26)
              have bB := Blk.new w11 #[.int .i64 dw, .int .i64 dh, .slice A4 dx.length c4] 26
              replace HB := HB.alloc HB.size (.cells #[.int .i64 dw, .int .i64 dh, .slice A4 dx.length c4] 26)
              clear hDi hDs
              have ebX0 := bX.cell 0
              have ebX1 := bX.cell 1
              have ebX2 := bX.cell 2
              have zbX := bX.lt
              have ebA0 := bA.cell 0
              have ebA1 := bA.cell 1
              have ebA2 := bA.cell 2
              have zbA := bA.lt
              have ebB0 := bB.cell 0
              have ebB1 := bB.cell 1
              have ebB2 := bB.cell 2
              have zbB := bB.lt
              go_wp2_with fail
              refine (vChart_same dw dh _ _ _ _ _ _ _ _ dx _ OA.rd OB.rd (Nat.le_refl _) (Nat.le_refl _)).mono ?_
              rintro e wb ⟨rfl, hb⟩
              replace HB := HB.trans (hb.mono HB.size)
              clear hb ebX0 ebX1 ebX2 zbX ebA0 ebA1 ebA2 zbA ebB0 ebB1 ebB2 zbB
              go_wp2
              go_ret
              exact ⟨ret_bool (by simp), HB⟩
      · obtain ⟨e1, e2, ⟨W1, W8⟩, ⟨H1, H8⟩, ⟨a1, a8⟩, ⟨d1, d8⟩, fg, ft, fsw, fsh, fap, fma, fall⟩ := HRB.out rfl
        clear HRB
        rw [e1, e2] at bA
        clear e1 e2
        generalize a * W = BW at *
        generalize d * H = BH at *
        obtain ⟨P, hP⟩ : ∃ z, placesX BW BH rx W H xs = z := ⟨_, rfl⟩
        rw [hP] at fap fma fall
        obtain ⟨ap, hap⟩ : ∃ z, apartN BW BH rx W H xs = z := ⟨_, rfl⟩
        rw [hap] at fap
        obtain ⟨sw, hsw⟩ : ∃ z, ((divA BW.toNat BH.toNat rx : Nat) : Int) = z := ⟨_, rfl⟩
        obtain ⟨sh, hsh⟩ : ∃ z, ((divD BW.toNat BH.toNat rx : Nat) : Int) = z := ⟨_, rfl⟩
        obtain ⟨sx, hsx⟩ : ∃ z, motX BW BH rx = z := ⟨_, rfl⟩
        rw [hsw] at fsw
        rw [hsh] at fsh
        have hPl : Hid (∀ (w : World) (A : Option Addr) (c : Nat) (A' : Option Addr) (c' : Nat), Rd w w.heap.size A rx.length c rx → Rd w w.heap.size A' xs.length c' xs → Calls Try.prog 10 #[chartV BW BH (.slice A rx.length c), chartV W H (.slice A' xs.length c')] w (OutF pairF w P true)) := Lib.hid fun w A c A' c' hrd h' => (by have := implPlacesOf_any BW BH A _ c _ rx W H A' _ c' _ xs w hrd h' (Nat.le_refl _) (Nat.le_refl _); rw [hP, ft] at this; exact this)
        have hSm : Hid (∀ (w : World) (A : Option Addr) (c : Nat), Rd w w.heap.size A rx.length c rx → Calls Try.prog 11 #[chartV BW BH (.slice A rx.length c)] w (OutChart w sw sh sx true)) := Lib.hid fun w A c hrd => (by have := implSmallestMotif_any BW BH A _ c _ rx w hrd (Nat.le_refl _); rw [fg, hsw, hsh, hsx] at this; exact this)
        have hAp : Hid (∀ (w : World) (A : Option Addr) (c : Nat) (A' : Option Addr) (c' : Nat), Rd w w.heap.size A rx.length c rx → Rd w w.heap.size A' xs.length c' xs → Calls Try.prog 12 #[chartV BW BH (.slice A rx.length c), chartV W H (.slice A' xs.length c')] w (Out w (.tuple #[.int .i64 ap, .bool true]))) := Lib.hid fun w A c A' c' hrd h' => (by have := implApartPlaces_any BW BH A _ c _ rx W H A' _ c' _ xs w hrd h' (Nat.le_refl _) (Nat.le_refl _); rw [hap, ft] at this; exact this)
        clear hP hap hsw hsh hsx fg ft
        have ebX0 := bX.cell 0
        have ebX1 := bX.cell 1
        have ebX2 := bX.cell 2
        have zbX := bX.lt
        have ebA0 := bA.cell 0
        have ebA1 := bA.cell 1
        have ebA2 := bA.cell 2
        have zbA := bA.lt
        go_wp2_with fail
        refine (hPl.out _ _ _ _ _ OA.rd OX.rd).mono ?_
        rintro e w5 ⟨A5, c5, rfl, own, hb⟩
        clear ebX0 ebX1 ebX2 zbX ebA0 ebA1 ebA2 zbA
        replace OX := OX.all hb
        replace OA := OA.all hb
        replace bX := bX.all hb
        replace bA := bA.all hb
        replace R := R.all hb HB.size
        have OP := own.mono HB.size
        clear own
        replace HB := HB.trans (hb.mono HB.size)
        clear hb
        have ebX0 := bX.cell 0
        have ebX1 := bX.cell 1
        have ebX2 := bX.cell 2
        have zbX := bX.lt
        have ebA0 := bA.cell 0
        have ebA1 := bA.cell 1
        have ebA2 := bA.cell 2
        have zbA := bA.lt
        go_wp2_with fail
        refine (hSm.out _ _ _ OA.rd).mono ?_
        rintro e w6 ⟨A6, c6, rfl, own, hb⟩
        clear ebX0 ebX1 ebX2 zbX ebA0 ebA1 ebA2 zbA
        replace OX := OX.all hb
        replace OA := OA.all hb
        replace OP := OP.all hb
        replace bX := bX.all hb
        replace bA := bA.all hb
        replace R := R.all hb HB.size
        have OS := own.mono HB.size
        clear own
        replace HB := HB.trans (hb.mono HB.size)
        clear hb
        replace OX := OX.alloc (.cells #[.int .i64 sw, .int .i64 sh, .slice A6 sx.length c6] 26)
        replace OA := OA.alloc (.cells #[.int .i64 sw, .int .i64 sh, .slice A6 sx.length c6] 26)
        replace OP := OP.alloc (.cells #[.int .i64 sw, .int .i64 sh, .slice A6 sx.length c6] 26)
        replace OS := OS.alloc (.cells #[.int .i64 sw, .int .i64 sh, .slice A6 sx.length c6] 26)
        replace bX := bX.alloc (.cells #[.int .i64 sw, .int .i64 sh, .slice A6 sx.length c6] 26)
        replace bA := bA.alloc (.cells #[.int .i64 sw, .int .i64 sh, .slice A6 sx.length c6] 26)
        replace R := R.alloc HB.size (.cells #[.int .i64 sw, .int .i64 sh, .slice A6 sx.length c6] 26)
        have bS := Blk.new w6 #[.int .i64 sw, .int .i64 sh, .slice A6 sx.length c6] 26
        replace HB := HB.alloc HB.size (.cells #[.int .i64 sw, .int .i64 sh, .slice A6 sx.length c6] 26)
        have ebX0 := bX.cell 0
        have ebX1 := bX.cell 1
        have ebX2 := bX.cell 2
        have zbX := bX.lt
        have ebA0 := bA.cell 0
        have ebA1 := bA.cell 1
        have ebA2 := bA.cell 2
        have zbA := bA.lt
        have ebS0 := bS.cell 0
        have ebS1 := bS.cell 1
        have ebS2 := bS.cell 2
        have zbS := bS.lt
        go_wp2_with fail
        refine (hAp.out _ _ _ _ _ OA.rd OX.rd).mono ?_
        rintro e w7 ⟨rfl, hb⟩
        clear ebX0 ebX1 ebX2 zbX ebA0 ebA1 ebA2 zbA ebS0 ebS1 ebS2 zbS
        replace OX := OX.all hb
        replace OA := OA.all hb
        replace OP := OP.all hb
        replace OS := OS.all hb
        replace bX := bX.all hb
        replace bA := bA.all hb
        replace bS := bS.all hb
        replace R := R.all hb HB.size
        replace HB := HB.trans (hb.mono HB.size)
        clear hb
        clear hPl hSm hAp
        have had := Int.mul_le_mul a8 d8 (by omega) (by omega : (0 : Int) ≤ 8)
        have had0 : 0 ≤ a * d := Int.mul_nonneg (by omega) (by omega)
        have ead : IntKind.i64.wrap (a * d) = a * d := IntWalk.i64_in _ (by omega)
        have g1 : ¬ W < sw := by omega
        have g2 : ¬ H < sh := by omega
        have g3 : ¬ (P.length : Int) < ap := by omega
        have g4 : ¬ (P.length : Int) < a * d := by omega
        have ebX0 := bX.cell 0
        have ebX1 := bX.cell 1
        have ebX2 := bX.cell 2
        have zbX := bX.lt
        have ebA0 := bA.cell 0
        have ebA1 := bA.cell 1
        have ebA2 := bA.cell 2
        have zbA := bA.lt
        have ebS0 := bS.cell 0
        have ebS1 := bS.cell 1
        have ebS2 := bS.cell 2
        have zbS := bS.lt
        go_upto_region 12 with fail
        go_cut [119] from 82 to 119 (fun t wx => t = .bool false ∧ Below w7.heap.size w7 wx)
        case first =>
          go_wp2_with fail
          go_meet
          exact ⟨by rw [decide_eq_false (by omega), decide_eq_false (by omega), decide_eq_false (by omega), decide_eq_false (by omega)]; rfl, Below.refl _ _⟩
        case rest =>
          obtain ⟨rfl, hb⟩ := hcut
          obtain ⟨w8, hw⟩ : ∃ w8, w8 = wc := ⟨_, rfl⟩
          subst hw
          clear ebX0 ebX1 ebX2 zbX ebA0 ebA1 ebA2 zbA ebS0 ebS1 ebS2 zbS
          replace OX := OX.all hb
          replace OA := OA.all hb
          replace OP := OP.all hb
          replace OS := OS.all hb
          replace bX := bX.all hb
          replace bA := bA.all hb
          replace bS := bS.all hb
          replace R := R.all hb HB.size
          replace HB := HB.trans (hb.mono HB.size)
          clear hb
          clear g1 g2 g3 g4 ead had had0 fsw fsh fap fma
          clear OA OS bA bS OX
          generalize w1.heap.size = Q at *
          clear ha hd
          have hPc := OP.rd.cap
          have hPm := OP.rd.max
          unfold maxLen at hPm
          go_wp2
          go_loopw [16] (fun i wr => ∃ I : Int, 0 ≤ I ∧ I ≤ d ∧ i = .int .i64 I ∧ OwnF pairF wr w.heap.size (.slice A5 P.length c5) P ∧ Blk wr Q 26 #[.int .i64 W, .int .i64 H, .slice A2 xs.length c2] ∧ RdB wr w.heap.size A n c ∧ Below w.heap.size w wr) (fun i _ => (d - intOf i).toNat)
          case atStart => exact ⟨0, Int.le_refl _, by omega, rfl, OP, bX, R, HB⟩
          case round =>
            clear OP bX R HB
            obtain ⟨I, I0, I1, rfl, OP, bX, R, HB⟩ := hrel
            by_cases hI : I < d
            · go_wp2
              go_loopw [17] (fun i wr => ∃ J : Int, 0 ≤ J ∧ J ≤ a ∧ i = .int .i64 J ∧ OwnF pairF wr w.heap.size (.slice A5 P.length c5) P ∧ Blk wr Q 26 #[.int .i64 W, .int .i64 H, .slice A2 xs.length c2] ∧ RdB wr w.heap.size A n c ∧ Below w.heap.size w wr) (fun i _ => (a - intOf i).toNat)
              case atStart => exact ⟨0, Int.le_refl _, by omega, rfl, OP, bX, R, HB⟩
              case round =>
                clear OP bX R HB
                obtain ⟨J, J0, J1, rfl, OP, bX, R, HB⟩ := hrel
                by_cases hJ : J < a
                · have hmem := fall I J I0 hI J0 hJ
                  have hIH := Int.mul_le_mul (show I ≤ 8 by omega) H8 (by omega) (by omega : (0 : Int) ≤ 8)
                  have hIH0 : 0 ≤ I * H := Int.mul_nonneg I0 (by omega)
                  have hJW := Int.mul_le_mul (show J ≤ 8 by omega) W8 (by omega) (by omega : (0 : Int) ≤ 8)
                  have hJW0 : 0 ≤ J * W := Int.mul_nonneg J0 (by omega)
                  have eI : IntKind.i64.wrap (I * H) = I * H := IntWalk.i64_in _ (by omega)
                  have eJ : IntKind.i64.wrap (J * W) = J * W := IntWalk.i64_in _ (by omega)
                  generalize hT : (⟨I * H, J * W⟩ : PairR) = T at *
                  have eT0 : T.f0 = I * H := by rw [← hT]
                  have eT1 : T.f1 = J * W := by rw [← hT]
                  have HE0 := Lib.hid eT0
                  have HE1 := Lib.hid eT1
                  clear eT0 eT1 hT
                  go_wp2
                  go_loopw [18, 19] (fun f p wr => ∃ k : Nat, k ≤ P.length ∧ p = .int .i64 k ∧ f = .bool (seenT P T k) ∧ OwnF pairF wr w.heap.size (.slice A5 P.length c5) P ∧ Blk wr Q 26 #[.int .i64 W, .int .i64 H, .slice A2 xs.length c2] ∧ RdB wr w.heap.size A n c ∧ Below w.heap.size w wr) (fun _ p _ => P.length - (intOf p).toNat)
                  case atStart => exact ⟨0, Nat.zero_le _, rfl, by rw [seenT_zero], OP, bX, R, HB⟩
                  case round =>
                    clear OP bX R HB
                    obtain ⟨k, hk, rfl, rfl, OP, bX, R, HB⟩ := hrel
                    by_cases hlt : k < P.length
                    · obtain ⟨b, off, s, hA5, hb5, _, HX, hc0, hc1⟩ := Pair_at OP.rd hlt
                      subst hA5
                      have HS := Lib.hid (seenT_succ (t := T) HX.out)
                      have e0 := bX.cell 0
                      have e1 := bX.cell 1
                      have hk0 : (0 : Int) ≤ (k : Int) := by omega
                      have hkn : (k : Int) < (P.length : Int) := by omega
                      cases hs : seenT P T k with
                      | true =>
                        rw [hs, Bool.true_or] at HS
                        have HV : Hid (true = true) := rfl
                        go_wp2
                        go_quiet (fail)
                        clear eI eJ
                        go_wp2
                        go_roundw
                        case rel => exact ⟨k + 1, by omega, by go_num, by rw [HS.out], OP.drewN nq, Blk.drewQ bX nq, RdB.drewQ R nq, belowN HB _⟩
                        case measure => simp [intOf]; omega
                      | false =>
                        rw [hs, Bool.false_or] at HS
                        have HQ := Lib.hid (show eqP s T = (s.f0 == I * H && s.f1 == J * W) by unfold eqP; rw [HE0.out, HE1.out])
                        have hpe := fun w => pairEq s.f0 s.f1 (I * H) (J * W) w
                        go_wp2
                        go_quiet (fail)
                        clear eI eJ hpe
                        go_wp2
                        go_roundw
                        case rel => exact ⟨k + 1, by omega, by go_num, by rw [HS.out, HQ.out], OP.drewN nq, Blk.drewQ bX nq, RdB.drewQ R nq, belowN HB _⟩
                        case measure => simp [intOf]; omega
                    · have hs := seenT_all hmem (p := k) (by omega)
                      rw [hs]
                      clear eI eJ hIH hIH0 hJW hJW0
                      go_wp2
                      go_roundw
                      case rel => exact ⟨J + 1, by omega, by omega, by go_num, OP, bX, R, HB⟩
                      case measure => simp [intOf]; omega
                · obtain rfl : J = a := by omega
                  go_wp2
                  go_roundw
                  case rel => exact ⟨I + 1, by omega, by omega, by go_num, OP, bX, R, HB⟩
                  case measure => simp [intOf]; omega
            · clear OP bX fall
              go_wp2_with fail
              refine (drawMirrorRepeat_any A n c w.heap.size _ R HB.size hn).mono ?_
              rintro e w9 ⟨W, H, A2, c2, xs, s, rfl, hsm, hs, own, hb⟩
              replace R := R.all hb HB.size
              have OX := own.mono HB.size
              clear own
              replace HB := HB.trans (hb.mono HB.size)
              clear hb
              replace OX := OX.alloc (.cells #[.int .i64 W, .int .i64 H, .slice A2 xs.length c2] 26)
              replace R := R.alloc HB.size (.cells #[.int .i64 W, .int .i64 H, .slice A2 xs.length c2] 26)
              have bX := Blk.new w9 #[.int .i64 W, .int .i64 H, .slice A2 xs.length c2] 26
              replace HB := HB.alloc HB.size (.cells #[.int .i64 W, .int .i64 H, .slice A2 xs.length c2] 26)
              clear hsm
              obtain ⟨mo, hmo⟩ : ∃ z, mirAll W H xs s = z := ⟨_, rfl⟩
              obtain ⟨mx, hmx⟩ : ∃ z, mirX W H xs s = z := ⟨_, rfl⟩
              obtain ⟨mw, hmw⟩ : ∃ z, orZero (mirAll W H xs s) (s * W) = z := ⟨_, rfl⟩
              obtain ⟨mh, hmh⟩ : ∃ z, orZero (mirAll W H xs s) H = z := ⟨_, rfl⟩
              have hMi : Hid (∀ (w : World) (A : Option Addr) (c : Nat), Rd w w.heap.size A xs.length c xs → Calls Try.prog 14 #[chartV W H (.slice A xs.length c), .int .i64 s] w (OutChart w mw mh mx mo)) := Lib.hid fun w A c hrd => (by have := implMirrorRepeat_any W H A _ c _ xs s w hrd (Nat.le_refl _); rw [hmw, hmh, hmx, hmo] at this; exact this)
              have hMs : Hid (∀ (w : World) (A : Option Addr) (c : Nat), Rd w w.heap.size A xs.length c xs → Calls Try.prog 15 #[chartV W H (.slice A xs.length c), .int .i64 s] w (OutChart w mw mh mx mo)) := Lib.hid fun w A c hrd => (by have := specMirrorRepeat_any W H A _ c _ xs s w hrd (Nat.le_refl _); rw [hmw, hmh, hmx, hmo] at this; exact this)
              have HMB : Hid (mo = true → s.tmod 2 = 0 → hasB mw mh mx 4 = true ∧ moveOk mw mh mx 4 = true) := Lib.hid fun ht he => by
                rw [hmo, ht] at hmw hmh
                have := mir_facts (hmo.trans ht) he
                rw [hmx] at this
                rw [← hmw, ← hmh]
                exact this
              clear hmo hmx hmw hmh
              have ebX0 := bX.cell 0
              have ebX1 := bX.cell 1
              have ebX2 := bX.cell 2
              have zbX := bX.lt
              go_wp2_with fail
              refine (hMi.out _ _ _ OX.rd).mono ?_
              rintro e w10 ⟨A3, c3, rfl, own, hb⟩
              clear ebX0 ebX1 ebX2 zbX
              replace OX := OX.all hb
              replace bX := bX.all hb
              replace R := R.all hb HB.size
              have OA := own.mono HB.size
              clear own
              replace HB := HB.trans (hb.mono HB.size)
              clear hb
              replace OX := OX.alloc (.cells #[.int .i64 mw, .int .i64 mh, .slice A3 mx.length c3] 26)
              replace OA := OA.alloc (.cells #[.int .i64 mw, .int .i64 mh, .slice A3 mx.length c3] 26)
              replace bX := bX.alloc (.cells #[.int .i64 mw, .int .i64 mh, .slice A3 mx.length c3] 26)
              replace R := R.alloc HB.size (.cells #[.int .i64 mw, .int .i64 mh, .slice A3 mx.length c3] 26)
              have bA := Blk.new w10 #[.int .i64 mw, .int .i64 mh, .slice A3 mx.length c3] 26
              replace HB := HB.alloc HB.size (.cells #[.int .i64 mw, .int .i64 mh, .slice A3 mx.length c3] 26)
              have ebX0 := bX.cell 0
              have ebX1 := bX.cell 1
              have ebX2 := bX.cell 2
              have zbX := bX.lt
              have ebA0 := bA.cell 0
              have ebA1 := bA.cell 1
              have ebA2 := bA.cell 2
              have zbA := bA.lt
              go_wp2_with fail
              refine (hMs.out _ _ _ OX.rd).mono ?_
              rintro e w11 ⟨A4, c4, rfl, own, hb⟩
              clear ebX0 ebX1 ebX2 zbX ebA0 ebA1 ebA2 zbA
              replace OX := OX.all hb
              replace OA := OA.all hb
              replace bX := bX.all hb
              replace bA := bA.all hb
              replace R := R.all hb HB.size
              have OB := own.mono HB.size
              clear own
              replace HB := HB.trans (hb.mono HB.size)
              clear hb
              replace OX := OX.alloc (.cells #[.int .i64 mw, .int .i64 mh, .slice A4 mx.length c4] 26)
              replace OA := OA.alloc (.cells #[.int .i64 mw, .int .i64 mh, .slice A4 mx.length c4] 26)
              replace OB := OB.alloc (.cells #[.int .i64 mw, .int .i64 mh, .slice A4 mx.length c4] 26)
              replace bX := bX.alloc (.cells #[.int .i64 mw, .int .i64 mh, .slice A4 mx.length c4] 26)
              replace bA := bA.alloc (.cells #[.int .i64 mw, .int .i64 mh, .slice A4 mx.length c4] 26)
              replace R := R.alloc HB.size (.cells #[.int .i64 mw, .int .i64 mh, .slice A4 mx.length c4] 26)
              have bB := Blk.new w11 #[.int .i64 mw, .int .i64 mh, .slice A4 mx.length c4] 26
              replace HB := HB.alloc HB.size (.cells #[.int .i64 mw, .int .i64 mh, .slice A4 mx.length c4] 26)
              clear hMi hMs
              have ebX0 := bX.cell 0
              have ebX1 := bX.cell 1
              have ebX2 := bX.cell 2
              have zbX := bX.lt
              have ebA0 := bA.cell 0
              have ebA1 := bA.cell 1
              have ebA2 := bA.cell 2
              have zbA := bA.lt
              have ebB0 := bB.cell 0
              have ebB1 := bB.cell 1
              have ebB2 := bB.cell 2
              have zbB := bB.lt
              go_upto_region 30 with fail
              go_cut [180] from 172 to 180 (fun t wx => t = .bool false ∧ Below (w11.alloc (.cells #[.int .i64 mw, .int .i64 mh, .slice A4 mx.length c4] 26)).heap.size (w11.alloc (.cells #[.int .i64 mw, .int .i64 mh, .slice A4 mx.length c4] 26)) wx)
              case first =>
                go_wp2_with fail
                refine (vChart_same mw mh _ _ _ _ _ _ _ _ mx _ OA.rd OB.rd (Nat.le_refl _) (Nat.le_refl _)).mono ?_
                rintro e wb ⟨rfl, hb⟩
                go_wp2_with fail
                go_meet
                exact ⟨rfl, hb⟩
              case rest =>
                obtain ⟨rfl, hb⟩ := hcut
                obtain ⟨w12, hw⟩ : ∃ w12, w12 = wc := ⟨_, rfl⟩
                subst hw
                clear ebX0 ebX1 ebX2 zbX ebA0 ebA1 ebA2 zbA ebB0 ebB1 ebB2 zbB
                replace OX := OX.all hb
                replace OA := OA.all hb
                replace OB := OB.all hb
                replace bX := bX.all hb
                replace bA := bA.all hb
                replace bB := bB.all hb
                replace R := R.all hb HB.size
                replace HB := HB.trans (hb.mono HB.size)
                clear hb
                clear OB bB OX bX
                cases mo
                · clear HMB hs
                  clear OA bA
                  go_wp2_with fail
                  refine (drawHalfDrop_any A n c w.heap.size _ R HB.size hn).mono ?_
                  rintro e w13 ⟨W, H, A2, c2, xs, rfl, hsm, own, hb⟩
                  replace R := R.all hb HB.size
                  have OX := own.mono HB.size
                  clear own
                  replace HB := HB.trans (hb.mono HB.size)
                  clear hb
                  replace OX := OX.alloc (.cells #[.int .i64 W, .int .i64 H, .slice A2 xs.length c2] 26)
                  replace R := R.alloc HB.size (.cells #[.int .i64 W, .int .i64 H, .slice A2 xs.length c2] 26)
                  have bX := Blk.new w13 #[.int .i64 W, .int .i64 H, .slice A2 xs.length c2] 26
                  replace HB := HB.alloc HB.size (.cells #[.int .i64 W, .int .i64 H, .slice A2 xs.length c2] 26)
                  clear hsm
                  obtain ⟨do_, hdo_⟩ : ∃ z, drpAll W H xs = z := ⟨_, rfl⟩
                  obtain ⟨dx, hdx⟩ : ∃ z, drpX W H xs = z := ⟨_, rfl⟩
                  obtain ⟨dw, hdw⟩ : ∃ z, orZero (drpAll W H xs) (2 * W) = z := ⟨_, rfl⟩
                  obtain ⟨dh, hdh⟩ : ∃ z, orZero (drpAll W H xs) H = z := ⟨_, rfl⟩
                  have hDi : Hid (∀ (w : World) (A : Option Addr) (c : Nat), Rd w w.heap.size A xs.length c xs → Calls Try.prog 18 #[chartV W H (.slice A xs.length c)] w (OutChart w dw dh dx do_)) := Lib.hid fun w A c hrd => (by have := implHalfDrop_any W H A _ c _ xs w hrd (Nat.le_refl _); rw [hdw, hdh, hdx, hdo_] at this; exact this)
                  have hDs : Hid (∀ (w : World) (A : Option Addr) (c : Nat), Rd w w.heap.size A xs.length c xs → Calls Try.prog 19 #[chartV W H (.slice A xs.length c)] w (OutChart w dw dh dx do_)) := Lib.hid fun w A c hrd => (by have := specHalfDrop_any W H A _ c _ xs w hrd (Nat.le_refl _); rw [hdw, hdh, hdx, hdo_] at this; exact this)
                  clear hdo_ hdx hdw hdh
                  have ebX0 := bX.cell 0
                  have ebX1 := bX.cell 1
                  have ebX2 := bX.cell 2
                  have zbX := bX.lt
                  go_wp2_with fail
                  refine (hDi.out _ _ _ OX.rd).mono ?_
                  rintro e w14 ⟨A3, c3, rfl, own, hb⟩
                  clear ebX0 ebX1 ebX2 zbX
                  replace OX := OX.all hb
                  replace bX := bX.all hb
                  replace R := R.all hb HB.size
                  have OA := own.mono HB.size
                  clear own
                  replace HB := HB.trans (hb.mono HB.size)
                  clear hb
                  replace OX := OX.alloc (.cells #[.int .i64 dw, .int .i64 dh, .slice A3 dx.length c3] 26)
                  replace OA := OA.alloc (.cells #[.int .i64 dw, .int .i64 dh, .slice A3 dx.length c3] 26)
                  replace bX := bX.alloc (.cells #[.int .i64 dw, .int .i64 dh, .slice A3 dx.length c3] 26)
                  replace R := R.alloc HB.size (.cells #[.int .i64 dw, .int .i64 dh, .slice A3 dx.length c3] 26)
                  have bA := Blk.new w14 #[.int .i64 dw, .int .i64 dh, .slice A3 dx.length c3] 26
                  replace HB := HB.alloc HB.size (.cells #[.int .i64 dw, .int .i64 dh, .slice A3 dx.length c3] 26)
                  have ebX0 := bX.cell 0
                  have ebX1 := bX.cell 1
                  have ebX2 := bX.cell 2
                  have zbX := bX.lt
                  have ebA0 := bA.cell 0
                  have ebA1 := bA.cell 1
                  have ebA2 := bA.cell 2
                  have zbA := bA.lt
                  go_wp2_with fail
                  refine (hDs.out _ _ _ OX.rd).mono ?_
                  rintro e w15 ⟨A4, c4, rfl, own, hb⟩
                  clear ebX0 ebX1 ebX2 zbX ebA0 ebA1 ebA2 zbA
                  replace OX := OX.all hb
                  replace OA := OA.all hb
                  replace bX := bX.all hb
                  replace bA := bA.all hb
                  replace R := R.all hb HB.size
                  have OB := own.mono HB.size
                  clear own
                  replace HB := HB.trans (hb.mono HB.size)
                  clear hb
                  replace OX := OX.alloc (.cells #[.int .i64 dw, .int .i64 dh, .slice A4 dx.length c4] 26)
                  replace OA := OA.alloc (.cells #[.int .i64 dw, .int .i64 dh, .slice A4 dx.length c4] 26)
                  replace OB := OB.alloc (.cells #[.int .i64 dw, .int .i64 dh, .slice A4 dx.length c4] 26)
                  replace bX := bX.alloc (.cells #[.int .i64 dw, .int .i64 dh, .slice A4 dx.length c4] 26)
                  replace bA := bA.alloc (.cells #[.int .i64 dw, .int .i64 dh, .slice A4 dx.length c4] 26)
                  replace R := R.alloc HB.size (.cells #[.int .i64 dw, .int .i64 dh, .slice A4 dx.length c4] 26)
                  have bB := Blk.new w15 #[.int .i64 dw, .int .i64 dh, .slice A4 dx.length c4] 26
                  replace HB := HB.alloc HB.size (.cells #[.int .i64 dw, .int .i64 dh, .slice A4 dx.length c4] 26)
                  clear hDi hDs
                  have ebX0 := bX.cell 0
                  have ebX1 := bX.cell 1
                  have ebX2 := bX.cell 2
                  have zbX := bX.lt
                  have ebA0 := bA.cell 0
                  have ebA1 := bA.cell 1
                  have ebA2 := bA.cell 2
                  have zbA := bA.lt
                  have ebB0 := bB.cell 0
                  have ebB1 := bB.cell 1
                  have ebB2 := bB.cell 2
                  have zbB := bB.lt
                  go_wp2_with fail
                  refine (vChart_same dw dh _ _ _ _ _ _ _ _ dx _ OA.rd OB.rd (Nat.le_refl _) (Nat.le_refl _)).mono ?_
                  rintro e wb ⟨rfl, hb⟩
                  replace HB := HB.trans (hb.mono HB.size)
                  clear hb ebX0 ebX1 ebX2 zbX ebA0 ebA1 ebA2 zbA ebB0 ebB1 ebB2 zbB
                  go_wp2
                  go_ret
                  exact ⟨ret_bool (by simp), HB⟩
                · by_cases he : s.tmod 2 = 0
                  · obtain ⟨f1, f2⟩ := HMB.out rfl he
                    have hHs : Hid (∀ (w : World) (A : Option Addr) (c : Nat), Rd w w.heap.size A mx.length c mx → Calls Try.prog 16 #[chartV mw mh (.slice A mx.length c), .int .i64 4] w (Out w (.tuple #[.bool true, .bool true]))) := Lib.hid fun w A c hrd => (by have := implHasSymmetry_any mw mh A _ c _ mx 4 w hrd (Nat.le_refl _); rw [f1, f2] at this; exact this)
                    clear f1 f2 HMB
                    have ebA0 := bA.cell 0
                    have ebA1 := bA.cell 1
                    have ebA2 := bA.cell 2
                    have zbA := bA.lt
                    go_wp2_with fail
                    refine (hHs.out _ _ _ OA.rd).mono ?_
                    rintro e w13 ⟨rfl, hb⟩
                    clear ebA0 ebA1 ebA2 zbA
                    replace OA := OA.all hb
                    replace bA := bA.all hb
                    replace R := R.all hb HB.size
                    replace HB := HB.trans (hb.mono HB.size)
                    clear hb
                    clear hHs hs
                    clear OA bA
                    go_wp2_with fail
                    refine (drawHalfDrop_any A n c w.heap.size _ R HB.size hn).mono ?_
                    rintro e w14 ⟨W, H, A2, c2, xs, rfl, hsm, own, hb⟩
                    replace R := R.all hb HB.size
                    have OX := own.mono HB.size
                    clear own
                    replace HB := HB.trans (hb.mono HB.size)
                    clear hb
                    replace OX := OX.alloc (.cells #[.int .i64 W, .int .i64 H, .slice A2 xs.length c2] 26)
                    replace R := R.alloc HB.size (.cells #[.int .i64 W, .int .i64 H, .slice A2 xs.length c2] 26)
                    have bX := Blk.new w14 #[.int .i64 W, .int .i64 H, .slice A2 xs.length c2] 26
                    replace HB := HB.alloc HB.size (.cells #[.int .i64 W, .int .i64 H, .slice A2 xs.length c2] 26)
                    clear hsm
                    obtain ⟨do_, hdo_⟩ : ∃ z, drpAll W H xs = z := ⟨_, rfl⟩
                    obtain ⟨dx, hdx⟩ : ∃ z, drpX W H xs = z := ⟨_, rfl⟩
                    obtain ⟨dw, hdw⟩ : ∃ z, orZero (drpAll W H xs) (2 * W) = z := ⟨_, rfl⟩
                    obtain ⟨dh, hdh⟩ : ∃ z, orZero (drpAll W H xs) H = z := ⟨_, rfl⟩
                    have hDi : Hid (∀ (w : World) (A : Option Addr) (c : Nat), Rd w w.heap.size A xs.length c xs → Calls Try.prog 18 #[chartV W H (.slice A xs.length c)] w (OutChart w dw dh dx do_)) := Lib.hid fun w A c hrd => (by have := implHalfDrop_any W H A _ c _ xs w hrd (Nat.le_refl _); rw [hdw, hdh, hdx, hdo_] at this; exact this)
                    have hDs : Hid (∀ (w : World) (A : Option Addr) (c : Nat), Rd w w.heap.size A xs.length c xs → Calls Try.prog 19 #[chartV W H (.slice A xs.length c)] w (OutChart w dw dh dx do_)) := Lib.hid fun w A c hrd => (by have := specHalfDrop_any W H A _ c _ xs w hrd (Nat.le_refl _); rw [hdw, hdh, hdx, hdo_] at this; exact this)
                    clear hdo_ hdx hdw hdh
                    have ebX0 := bX.cell 0
                    have ebX1 := bX.cell 1
                    have ebX2 := bX.cell 2
                    have zbX := bX.lt
                    go_wp2_with fail
                    refine (hDi.out _ _ _ OX.rd).mono ?_
                    rintro e w15 ⟨A3, c3, rfl, own, hb⟩
                    clear ebX0 ebX1 ebX2 zbX
                    replace OX := OX.all hb
                    replace bX := bX.all hb
                    replace R := R.all hb HB.size
                    have OA := own.mono HB.size
                    clear own
                    replace HB := HB.trans (hb.mono HB.size)
                    clear hb
                    replace OX := OX.alloc (.cells #[.int .i64 dw, .int .i64 dh, .slice A3 dx.length c3] 26)
                    replace OA := OA.alloc (.cells #[.int .i64 dw, .int .i64 dh, .slice A3 dx.length c3] 26)
                    replace bX := bX.alloc (.cells #[.int .i64 dw, .int .i64 dh, .slice A3 dx.length c3] 26)
                    replace R := R.alloc HB.size (.cells #[.int .i64 dw, .int .i64 dh, .slice A3 dx.length c3] 26)
                    have bA := Blk.new w15 #[.int .i64 dw, .int .i64 dh, .slice A3 dx.length c3] 26
                    replace HB := HB.alloc HB.size (.cells #[.int .i64 dw, .int .i64 dh, .slice A3 dx.length c3] 26)
                    have ebX0 := bX.cell 0
                    have ebX1 := bX.cell 1
                    have ebX2 := bX.cell 2
                    have zbX := bX.lt
                    have ebA0 := bA.cell 0
                    have ebA1 := bA.cell 1
                    have ebA2 := bA.cell 2
                    have zbA := bA.lt
                    go_wp2_with fail
                    refine (hDs.out _ _ _ OX.rd).mono ?_
                    rintro e w16 ⟨A4, c4, rfl, own, hb⟩
                    clear ebX0 ebX1 ebX2 zbX ebA0 ebA1 ebA2 zbA
                    replace OX := OX.all hb
                    replace OA := OA.all hb
                    replace bX := bX.all hb
                    replace bA := bA.all hb
                    replace R := R.all hb HB.size
                    have OB := own.mono HB.size
                    clear own
                    replace HB := HB.trans (hb.mono HB.size)
                    clear hb
                    replace OX := OX.alloc (.cells #[.int .i64 dw, .int .i64 dh, .slice A4 dx.length c4] 26)
                    replace OA := OA.alloc (.cells #[.int .i64 dw, .int .i64 dh, .slice A4 dx.length c4] 26)
                    replace OB := OB.alloc (.cells #[.int .i64 dw, .int .i64 dh, .slice A4 dx.length c4] 26)
                    replace bX := bX.alloc (.cells #[.int .i64 dw, .int .i64 dh, .slice A4 dx.length c4] 26)
                    replace bA := bA.alloc (.cells #[.int .i64 dw, .int .i64 dh, .slice A4 dx.length c4] 26)
                    replace R := R.alloc HB.size (.cells #[.int .i64 dw, .int .i64 dh, .slice A4 dx.length c4] 26)
                    have bB := Blk.new w16 #[.int .i64 dw, .int .i64 dh, .slice A4 dx.length c4] 26
                    replace HB := HB.alloc HB.size (.cells #[.int .i64 dw, .int .i64 dh, .slice A4 dx.length c4] 26)
                    clear hDi hDs
                    have ebX0 := bX.cell 0
                    have ebX1 := bX.cell 1
                    have ebX2 := bX.cell 2
                    have zbX := bX.lt
                    have ebA0 := bA.cell 0
                    have ebA1 := bA.cell 1
                    have ebA2 := bA.cell 2
                    have zbA := bA.lt
                    have ebB0 := bB.cell 0
                    have ebB1 := bB.cell 1
                    have ebB2 := bB.cell 2
                    have zbB := bB.lt
                    go_wp2_with fail
                    refine (vChart_same dw dh _ _ _ _ _ _ _ _ dx _ OA.rd OB.rd (Nat.le_refl _) (Nat.le_refl _)).mono ?_
                    rintro e wb ⟨rfl, hb⟩
                    replace HB := HB.trans (hb.mono HB.size)
                    clear hb ebX0 ebX1 ebX2 zbX ebA0 ebA1 ebA2 zbA ebB0 ebB1 ebB2 zbB
                    go_wp2
                    go_ret
                    exact ⟨ret_bool (by simp), HB⟩
                  · clear HMB
                    clear OA bA
                    go_wp2_with fail
                    refine (drawHalfDrop_any A n c w.heap.size _ R HB.size hn).mono ?_
                    rintro e w13 ⟨W, H, A2, c2, xs, rfl, hsm, own, hb⟩
                    replace R := R.all hb HB.size
                    have OX := own.mono HB.size
                    clear own
                    replace HB := HB.trans (hb.mono HB.size)
                    clear hb
                    replace OX := OX.alloc (.cells #[.int .i64 W, .int .i64 H, .slice A2 xs.length c2] 26)
                    replace R := R.alloc HB.size (.cells #[.int .i64 W, .int .i64 H, .slice A2 xs.length c2] 26)
                    have bX := Blk.new w13 #[.int .i64 W, .int .i64 H, .slice A2 xs.length c2] 26
                    replace HB := HB.alloc HB.size (.cells #[.int .i64 W, .int .i64 H, .slice A2 xs.length c2] 26)
                    clear hsm
                    obtain ⟨do_, hdo_⟩ : ∃ z, drpAll W H xs = z := ⟨_, rfl⟩
                    obtain ⟨dx, hdx⟩ : ∃ z, drpX W H xs = z := ⟨_, rfl⟩
                    obtain ⟨dw, hdw⟩ : ∃ z, orZero (drpAll W H xs) (2 * W) = z := ⟨_, rfl⟩
                    obtain ⟨dh, hdh⟩ : ∃ z, orZero (drpAll W H xs) H = z := ⟨_, rfl⟩
                    have hDi : Hid (∀ (w : World) (A : Option Addr) (c : Nat), Rd w w.heap.size A xs.length c xs → Calls Try.prog 18 #[chartV W H (.slice A xs.length c)] w (OutChart w dw dh dx do_)) := Lib.hid fun w A c hrd => (by have := implHalfDrop_any W H A _ c _ xs w hrd (Nat.le_refl _); rw [hdw, hdh, hdx, hdo_] at this; exact this)
                    have hDs : Hid (∀ (w : World) (A : Option Addr) (c : Nat), Rd w w.heap.size A xs.length c xs → Calls Try.prog 19 #[chartV W H (.slice A xs.length c)] w (OutChart w dw dh dx do_)) := Lib.hid fun w A c hrd => (by have := specHalfDrop_any W H A _ c _ xs w hrd (Nat.le_refl _); rw [hdw, hdh, hdx, hdo_] at this; exact this)
                    clear hdo_ hdx hdw hdh
                    have ebX0 := bX.cell 0
                    have ebX1 := bX.cell 1
                    have ebX2 := bX.cell 2
                    have zbX := bX.lt
                    go_wp2_with fail
                    refine (hDi.out _ _ _ OX.rd).mono ?_
                    rintro e w14 ⟨A3, c3, rfl, own, hb⟩
                    clear ebX0 ebX1 ebX2 zbX
                    replace OX := OX.all hb
                    replace bX := bX.all hb
                    replace R := R.all hb HB.size
                    have OA := own.mono HB.size
                    clear own
                    replace HB := HB.trans (hb.mono HB.size)
                    clear hb
                    replace OX := OX.alloc (.cells #[.int .i64 dw, .int .i64 dh, .slice A3 dx.length c3] 26)
                    replace OA := OA.alloc (.cells #[.int .i64 dw, .int .i64 dh, .slice A3 dx.length c3] 26)
                    replace bX := bX.alloc (.cells #[.int .i64 dw, .int .i64 dh, .slice A3 dx.length c3] 26)
                    replace R := R.alloc HB.size (.cells #[.int .i64 dw, .int .i64 dh, .slice A3 dx.length c3] 26)
                    have bA := Blk.new w14 #[.int .i64 dw, .int .i64 dh, .slice A3 dx.length c3] 26
                    replace HB := HB.alloc HB.size (.cells #[.int .i64 dw, .int .i64 dh, .slice A3 dx.length c3] 26)
                    have ebX0 := bX.cell 0
                    have ebX1 := bX.cell 1
                    have ebX2 := bX.cell 2
                    have zbX := bX.lt
                    have ebA0 := bA.cell 0
                    have ebA1 := bA.cell 1
                    have ebA2 := bA.cell 2
                    have zbA := bA.lt
                    go_wp2_with fail
                    refine (hDs.out _ _ _ OX.rd).mono ?_
                    rintro e w15 ⟨A4, c4, rfl, own, hb⟩
                    clear ebX0 ebX1 ebX2 zbX ebA0 ebA1 ebA2 zbA
                    replace OX := OX.all hb
                    replace OA := OA.all hb
                    replace bX := bX.all hb
                    replace bA := bA.all hb
                    replace R := R.all hb HB.size
                    have OB := own.mono HB.size
                    clear own
                    replace HB := HB.trans (hb.mono HB.size)
                    clear hb
                    replace OX := OX.alloc (.cells #[.int .i64 dw, .int .i64 dh, .slice A4 dx.length c4] 26)
                    replace OA := OA.alloc (.cells #[.int .i64 dw, .int .i64 dh, .slice A4 dx.length c4] 26)
                    replace OB := OB.alloc (.cells #[.int .i64 dw, .int .i64 dh, .slice A4 dx.length c4] 26)
                    replace bX := bX.alloc (.cells #[.int .i64 dw, .int .i64 dh, .slice A4 dx.length c4] 26)
                    replace bA := bA.alloc (.cells #[.int .i64 dw, .int .i64 dh, .slice A4 dx.length c4] 26)
                    replace R := R.alloc HB.size (.cells #[.int .i64 dw, .int .i64 dh, .slice A4 dx.length c4] 26)
                    have bB := Blk.new w15 #[.int .i64 dw, .int .i64 dh, .slice A4 dx.length c4] 26
                    replace HB := HB.alloc HB.size (.cells #[.int .i64 dw, .int .i64 dh, .slice A4 dx.length c4] 26)
                    clear hDi hDs
                    have ebX0 := bX.cell 0
                    have ebX1 := bX.cell 1
                    have ebX2 := bX.cell 2
                    have zbX := bX.lt
                    have ebA0 := bA.cell 0
                    have ebA1 := bA.cell 1
                    have ebA2 := bA.cell 2
                    have zbA := bA.lt
                    have ebB0 := bB.cell 0
                    have ebB1 := bB.cell 1
                    have ebB2 := bB.cell 2
                    have zbB := bB.lt
                    go_wp2_with fail
                    refine (vChart_same dw dh _ _ _ _ _ _ _ _ dx _ OA.rd OB.rd (Nat.le_refl _) (Nat.le_refl _)).mono ?_
                    rintro e wb ⟨rfl, hb⟩
                    replace HB := HB.trans (hb.mono HB.size)
                    clear hb ebX0 ebX1 ebX2 zbX ebA0 ebA1 ebA2 zbA ebB0 ebB1 ebB2 zbB
                    go_wp2
                    go_ret
                    exact ⟨ret_bool (by simp), HB⟩
  · go_enter Try.func3, Try.ntmps3
    go_wp2_with fail
    refine (vBig_eq A n c _ (by omega) true (by simp; omega)).mono ?_
    rintro e w' ⟨rfl, rfl⟩
    go_wp2
    go_ret
    exact ⟨rfl, HB⟩
end Go.Proofs.Ytimindgefceibaa
