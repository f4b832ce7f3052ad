/- The walk of the law FnBorders. No condition. -/
import Derived.Test.YtjfdcmdgpeeabaaDraws8
import Derived.Test.YtjfdcmdgpeeabaaDraws8B
import Derived.Test.YtjfdcmdgpeeabaaMgFn
import Derived.Test.YtjfdcmdgpeeabaaRing5
import Derived.Test.YtjfdcmdgpeeabaaRing6
import Derived.Test.YtjfdcmdgpeeabaaRing7
import Derived.Test.YtjfdcmdgpeeabaaRing8
import Derived.Test.YtjfdcmdgpeeabaaRing9
import Derived.BigQuiet
import Derived.IntWalk
namespace Go.Proofs.Ytjfdcmdgpeeabaa
open Go.RowKit

/-- What stands behind a border that could be added. -/
def border_calls (W H : Int) (xs ps : List Int) (u0 u1 : Int) (pu : List Int) : Prop :=
  Hid (∀ (w : World) (A : Option Addr) (c : Nat), Rd w w.heap.size A pu.length c pu → Calls Try.prog 9 #[chartV u0 u1 (.slice A pu.length c)] w (OutChart w W H xs true)) ∧
  Hid (∀ (w : World) (A : Option Addr) (c : Nat) (A' : Option Addr) (c' : Nat), Rd w w.heap.size A pu.length c pu → Rd w w.heap.size A' ps.length c' ps → Calls Try.prog 10 #[chartV u0 u1 (.slice A pu.length c), .slice A' ps.length c'] w (Out w (.tuple #[.bool true, .bool true]))) ∧
  Hid (∃ p : Nat, 1 ≤ p ∧ p ≤ ps.length ∧ ∀ (w : World) (A : Option Addr) (c : Nat), Rd w w.heap.size A pu.length c pu → Calls Try.prog 11 #[chartV u0 u1 (.slice A pu.length c)] w (Out w (.tuple #[.int .i64 (p : Int), .bool true]))) ∧
  Hid (∃ cv : List Int, cv.length = 4 ∧ cv.getD 0 0 = ps.getD 0 0 ∧ ∀ (w : World) (A : Option Addr) (c : Nat), Rd w w.heap.size A pu.length c pu → Calls Try.prog 12 #[chartV u0 u1 (.slice A pu.length c)] w (OutInts w cv true)) ∧ 1 ≤ ps.length ∧ ps.length ≤ 8
theorem borders_calls {W H : Int} {xs ps : List Int} (h : addOk W H xs ps = true) : border_calls W H xs ps (orZero (addOk W H xs ps) (W + 2)) (orZero (addOk W H xs ps) (H + 2)) (addX W H xs ps) := by
  obtain ⟨f0, f1, f2, f3, f4, p1, p8, ⟨p, g0, g1, g2⟩, k4, k5⟩ := borders_facts h
  rw [h]
  refine ⟨Lib.hid fun w A c hR => ?_, Lib.hid fun w A c A' c' hR hR' => ?_, Lib.hid ⟨p, g1, g2, fun w A c hR => ?_⟩, Lib.hid ⟨_, k4, k5, fun w A c hR => ?_⟩, p1, p8⟩
  · have := implStripBorder_any (W + 2) (H + 2) A _ c _ _ w hR (Nat.le_refl _)
    rw [f0, f1] at this
    rw [show orZero true (W + 2 - 2) = W by simp [orZero], show orZero true (H + 2 - 2) = H by simp [orZero]] at this
    exact this
  · have := implDoesMeet_any (W + 2) (H + 2) A _ c _ _ A' _ c' _ ps w hR hR' (Nat.le_refl _) (Nat.le_refl _)
    rw [f2, f3] at this
    exact this
  · have := implRingPeriod_any (W + 2) (H + 2) A _ c _ _ w hR (Nat.le_refl _)
    rw [g0, f4] at this
    exact this
  · have := implCornersOf_any (W + 2) (H + 2) A _ c _ _ w hR (Nat.le_refl _)
    rw [f4] at this
    exact this
set_option maxRecDepth 100000 in
set_option maxHeartbeats 16000000 in
theorem fnBorders_walk (w : World) (A : Option Addr) (n c : Nat) (R : RdB w w.heap.size A n c) : Calls Try.prog 3 #[.slice A n c] w fun e w' => e = .returned (.bool true) ∧ Below w.heap.size w w' := by
  have hcap := R.cap
  have hmax := R.max
  unfold maxLen at hmax
  have HB := Below.refl w.heap.size w
  by_cases hn : n ≤ 65536
  rotate_left
  · go_enter Try.func3, Try.ntmps3
    go_wp2_with fail
    refine (vBig_eq A n c _ (by omega) true (by simp; omega)).mono ?_
    rintro e w' ⟨rfl, rfl⟩
    go_wp2
    go_ret
    exact ⟨rfl, HB⟩
  go_enter Try.func3, Try.ntmps3
  go_wp2_with fail
  refine (vBig_eq A n c _ (by omega) false (by simp; omega)).mono ?_
  rintro e w' ⟨rfl, rfl⟩
  go_wp2_with fail
  refine (drawAddBorder_any A n c w.heap.size _ R HB.size hn).mono ?_
  rintro e w1 ⟨W, H, A2, c2, xs, A3, c3, ps, rfl, hsm, hcl, own, own2, hb⟩
  replace R := R.all hb HB.size
  have OX := own.mono HB.size
  have OP := own2.mono HB.size
  clear own own2
  replace HB := HB.trans (hb.mono HB.size)
  clear hb
  replace OX := OX.alloc (.cells #[.int .i64 W, .int .i64 H, .slice A2 xs.length c2] 26)
  replace OP := OP.alloc (.cells #[.int .i64 W, .int .i64 H, .slice A2 xs.length c2] 26)
  replace R := R.alloc HB.size (.cells #[.int .i64 W, .int .i64 H, .slice A2 xs.length c2] 26)
  have bC := Blk.new w1 #[.int .i64 W, .int .i64 H, .slice A2 xs.length c2] 26
  replace HB := HB.alloc HB.size (.cells #[.int .i64 W, .int .i64 H, .slice A2 xs.length c2] 26)
  obtain ⟨pu, hpu⟩ : ∃ vv, addX W H xs ps = vv := ⟨_, rfl⟩
  obtain ⟨po, hpo⟩ : ∃ vv, addOk W H xs ps = vv := ⟨_, rfl⟩
  obtain ⟨u0, hu0⟩ : ∃ vv, orZero (addOk W H xs ps) (W + 2) = vv := ⟨_, rfl⟩
  obtain ⟨u1, hu1⟩ : ∃ vv, orZero (addOk W H xs ps) (H + 2) = vv := ⟨_, rfl⟩
  have hAi : Hid (∀ (w : World) (A : Option Addr) (c : Nat) (A' : Option Addr) (c' : Nat), Rd w w.heap.size A xs.length c xs → Rd w w.heap.size A' ps.length c' ps → Calls Try.prog 6 #[chartV W H (.slice A xs.length c), .slice A' ps.length c'] w (OutChart w u0 u1 pu po)) := Lib.hid fun w A c A' c' h h' => (by have := implAddBorder_any W H A _ c _ xs A' _ c' _ ps w h h' (Nat.le_refl _) (Nat.le_refl _); rw [hu0, hu1, hpu, hpo] at this; exact this)
  have hAs : Hid (∀ (w : World) (A : Option Addr) (c : Nat) (A' : Option Addr) (c' : Nat), Rd w w.heap.size A xs.length c xs → Rd w w.heap.size A' ps.length c' ps → Calls Try.prog 7 #[chartV W H (.slice A xs.length c), .slice A' ps.length c'] w (OutChart w u0 u1 pu po)) := Lib.hid fun w A c A' c' h h' => (by have := specAddBorder_any W H A _ c _ xs A' _ c' _ ps w h h' (Nat.le_refl _) (Nat.le_refl _); rw [hu0, hu1, hpu, hpo] at this; exact this)
  have HF : Hid (po = true → border_calls W H xs ps u0 u1 pu) := Lib.hid fun hh => by
    have := borders_calls (hpo.trans hh)
    rw [hu0, hu1, hpu] at this
    exact this
  clear hpu hpo hu0 hu1 hsm hcl
  have ebC0 := bC.cell 0
  have ebC1 := bC.cell 1
  have ebC2 := bC.cell 2
  have zbC := bC.lt
  go_wp2_with fail
  refine (hAi.out _ _ _ _ _ OX.rd OP.rd).mono ?_
  rintro e w2 ⟨A4, c4, rfl, own, hb⟩
  clear ebC0 ebC1 ebC2 zbC
  replace OX := OX.all hb
  replace OP := OP.all hb
  replace bC := bC.all hb
  replace R := R.all hb HB.size
  have OO := own.mono HB.size
  clear own
  replace HB := HB.trans (hb.mono HB.size)
  clear hb
  replace OX := OX.alloc (.cells #[.int .i64 u0, .int .i64 u1, .slice A4 pu.length c4] 26)
  replace OP := OP.alloc (.cells #[.int .i64 u0, .int .i64 u1, .slice A4 pu.length c4] 26)
  replace OO := OO.alloc (.cells #[.int .i64 u0, .int .i64 u1, .slice A4 pu.length c4] 26)
  replace bC := bC.alloc (.cells #[.int .i64 u0, .int .i64 u1, .slice A4 pu.length c4] 26)
  replace R := R.alloc HB.size (.cells #[.int .i64 u0, .int .i64 u1, .slice A4 pu.length c4] 26)
  have bO := Blk.new w2 #[.int .i64 u0, .int .i64 u1, .slice A4 pu.length c4] 26
  replace HB := HB.alloc HB.size (.cells #[.int .i64 u0, .int .i64 u1, .slice A4 pu.length c4] 26)
  have ebC0 := bC.cell 0
  have ebC1 := bC.cell 1
  have ebC2 := bC.cell 2
  have zbC := bC.lt
  have ebO0 := bO.cell 0
  have ebO1 := bO.cell 1
  have ebO2 := bO.cell 2
  have zbO := bO.lt
  go_wp2_with fail
  refine (hAs.out _ _ _ _ _ OX.rd OP.rd).mono ?_
  rintro e w3 ⟨A5, c5, rfl, own, hb⟩
  clear ebC0 ebC1 ebC2 zbC ebO0 ebO1 ebO2 zbO
  replace OX := OX.all hb
  replace OP := OP.all hb
  replace OO := OO.all hb
  replace bC := bC.all hb
  replace bO := bO.all hb
  replace R := R.all hb HB.size
  have OW := own.mono HB.size
  clear own
  replace HB := HB.trans (hb.mono HB.size)
  clear hb
  replace OX := OX.alloc (.cells #[.int .i64 u0, .int .i64 u1, .slice A5 pu.length c5] 26)
  replace OP := OP.alloc (.cells #[.int .i64 u0, .int .i64 u1, .slice A5 pu.length c5] 26)
  replace OO := OO.alloc (.cells #[.int .i64 u0, .int .i64 u1, .slice A5 pu.length c5] 26)
  replace OW := OW.alloc (.cells #[.int .i64 u0, .int .i64 u1, .slice A5 pu.length c5] 26)
  replace bC := bC.alloc (.cells #[.int .i64 u0, .int .i64 u1, .slice A5 pu.length c5] 26)
  replace bO := bO.alloc (.cells #[.int .i64 u0, .int .i64 u1, .slice A5 pu.length c5] 26)
  replace R := R.alloc HB.size (.cells #[.int .i64 u0, .int .i64 u1, .slice A5 pu.length c5] 26)
  have bW := Blk.new w3 #[.int .i64 u0, .int .i64 u1, .slice A5 pu.length c5] 26
  replace HB := HB.alloc HB.size (.cells #[.int .i64 u0, .int .i64 u1, .slice A5 pu.length c5] 26)
  clear hAi hAs
  have ebC0 := bC.cell 0
  have ebC1 := bC.cell 1
  have ebC2 := bC.cell 2
  have zbC := bC.lt
  have ebO0 := bO.cell 0
  have ebO1 := bO.cell 1
  have ebO2 := bO.cell 2
  have zbO := bO.lt
  have ebW0 := bW.cell 0
  have ebW1 := bW.cell 1
  have ebW2 := bW.cell 2
  have zbW := bW.lt
  go_wp2_with fail
  refine (vChart_same u0 u1 _ _ _ _ _ _ _ _ pu _ OO.rd OW.rd (Nat.le_refl _) (Nat.le_refl _)).mono ?_
  rintro e w4 ⟨rfl, hb⟩
  clear ebC0 ebC1 ebC2 zbC ebO0 ebO1 ebO2 zbO ebW0 ebW1 ebW2 zbW
  replace OX := OX.all hb
  replace OP := OP.all hb
  replace OO := OO.all hb
  replace OW := OW.all hb
  replace bC := bC.all hb
  replace bO := bO.all hb
  replace bW := bW.all hb
  replace R := R.all hb HB.size
  replace HB := HB.trans (hb.mono HB.size)
  clear hb
  clear OW bW
  cases po
  case false =>
    clear HF
    clear OX OP bC OO bO
    go_wp2_with fail
    refine (drawDoesMeet_any A n c w.heap.size _ R HB.size hn).mono ?_
    rintro e w5 ⟨X0, X1, A7, c7, qs, A8, c8, ys, rfl, hsm, hcl, own, own2, hb⟩
    replace R := R.all hb HB.size
    have OQ := own.mono HB.size
    have OY := own2.mono HB.size
    clear own own2
    replace HB := HB.trans (hb.mono HB.size)
    clear hb
    replace OQ := OQ.alloc (.cells #[.int .i64 X0, .int .i64 X1, .slice A7 qs.length c7] 26)
    replace OY := OY.alloc (.cells #[.int .i64 X0, .int .i64 X1, .slice A7 qs.length c7] 26)
    replace R := R.alloc HB.size (.cells #[.int .i64 X0, .int .i64 X1, .slice A7 qs.length c7] 26)
    have bX := Blk.new w5 #[.int .i64 X0, .int .i64 X1, .slice A7 qs.length c7] 26
    replace HB := HB.alloc HB.size (.cells #[.int .i64 X0, .int .i64 X1, .slice A7 qs.length c7] 26)
    obtain ⟨mv, hmv⟩ : ∃ vv, meetV X0 X1 qs ys = vv := ⟨_, rfl⟩
    obtain ⟨mo, hmo⟩ : ∃ vv, meetOk X0 X1 qs ys = vv := ⟨_, rfl⟩
    have hMi : Hid (∀ (w : World) (A : Option Addr) (c : Nat) (A' : Option Addr) (c' : Nat), Rd w w.heap.size A qs.length c qs → Rd w w.heap.size A' ys.length c' ys → Calls Try.prog 10 #[chartV X0 X1 (.slice A qs.length c), .slice A' ys.length c'] w (Out w (.tuple #[.bool mv, .bool mo]))) := Lib.hid fun w A c A' c' h h' => (by have := implDoesMeet_any X0 X1 A _ c _ qs A' _ c' _ ys w h h' (Nat.le_refl _) (Nat.le_refl _); rw [hmv, hmo] at this; exact this)
    have hMs : Hid (∀ (w : World) (A : Option Addr) (c : Nat) (A' : Option Addr) (c' : Nat), Rd w w.heap.size A qs.length c qs → Rd w w.heap.size A' ys.length c' ys → Calls Try.prog 14 #[chartV X0 X1 (.slice A qs.length c), .slice A' ys.length c'] w (Out w (.tuple #[.bool mv, .bool mo]))) := Lib.hid fun w A c A' c' h h' => (by have := specDoesMeet_any X0 X1 A _ c _ qs A' _ c' _ ys w h h' (Nat.le_refl _) (Nat.le_refl _); rw [hmv, hmo] at this; exact this)
    have HMF : Hid (mo = true → ∃ N : Nat, 1 ≤ ys.length ∧ ys.length ≤ 8 ∧ N ≤ 28 ∧ mv = decide (N % ys.length = 0) ∧ ∀ w : World, Calls Try.prog 15 #[.int .i64 X0, .int .i64 X1] w (Out w (.tuple #[.int .i64 (N : Int), .bool true]))) := Lib.hid fun hh => by
      obtain ⟨N, f0, f1, f2, f3, f4, f5⟩ := meet_facts (hmo.trans hh)
      rw [hmv] at f5
      refine ⟨N, f2, f3, f4, f5, fun w => ?_⟩
      have := implRingLength_any X0 X1 w
      rw [f0, f1] at this
      exact this
    clear hmv hmo hsm hcl
    have ebX0 := bX.cell 0
    have ebX1 := bX.cell 1
    have ebX2 := bX.cell 2
    have zbX := bX.lt
    go_wp2_with fail
    refine (hMi.out _ _ _ _ _ OQ.rd OY.rd).mono ?_
    rintro e w6 ⟨rfl, hb⟩
    clear ebX0 ebX1 ebX2 zbX
    replace OQ := OQ.all hb
    replace OY := OY.all hb
    replace bX := bX.all hb
    replace R := R.all hb HB.size
    replace HB := HB.trans (hb.mono HB.size)
    clear hb
    have ebX0 := bX.cell 0
    have ebX1 := bX.cell 1
    have ebX2 := bX.cell 2
    have zbX := bX.lt
    go_wp2_with fail
    refine (hMs.out _ _ _ _ _ OQ.rd OY.rd).mono ?_
    rintro e w7 ⟨rfl, hb⟩
    clear ebX0 ebX1 ebX2 zbX
    replace OQ := OQ.all hb
    replace OY := OY.all hb
    replace bX := bX.all hb
    replace R := R.all hb HB.size
    replace HB := HB.trans (hb.mono HB.size)
    clear hb
    clear hMi hMs
    clear OQ OY
    cases mo
    case false =>
      clear HMF
      clear bX
      go_wp2_with fail
      refine (drawStripBorder_any A n c w.heap.size _ R HB.size hn).mono ?_
      rintro e w8 ⟨Z0, Z1, A13, c13, zs, rfl, hsm, own, hb⟩
      replace R := R.all hb HB.size
      have OZ := own.mono HB.size
      clear own
      replace HB := HB.trans (hb.mono HB.size)
      clear hb
      replace OZ := OZ.alloc (.cells #[.int .i64 Z0, .int .i64 Z1, .slice A13 zs.length c13] 26)
      replace R := R.alloc HB.size (.cells #[.int .i64 Z0, .int .i64 Z1, .slice A13 zs.length c13] 26)
      have bZ := Blk.new w8 #[.int .i64 Z0, .int .i64 Z1, .slice A13 zs.length c13] 26
      replace HB := HB.alloc HB.size (.cells #[.int .i64 Z0, .int .i64 Z1, .slice A13 zs.length c13] 26)
      obtain ⟨t0, ht0⟩ : ∃ vv, orZero (stripOk Z0 Z1 zs) (Z0 - 2) = vv := ⟨_, rfl⟩
      obtain ⟨t1, ht1⟩ : ∃ vv, orZero (stripOk Z0 Z1 zs) (Z1 - 2) = vv := ⟨_, rfl⟩
      obtain ⟨ts, hts⟩ : ∃ vv, stripX Z0 Z1 zs = vv := ⟨_, rfl⟩
      obtain ⟨tb, htb⟩ : ∃ vv, stripOk Z0 Z1 zs = vv := ⟨_, rfl⟩
      have hSi : Hid (∀ (w : World) (A : Option Addr) (c : Nat), Rd w w.heap.size A zs.length c zs → Calls Try.prog 9 #[chartV Z0 Z1 (.slice A zs.length c)] w (OutChart w t0 t1 ts tb)) := Lib.hid fun w A c h => (by have := implStripBorder_any Z0 Z1 A _ c _ zs w h (Nat.le_refl _); rw [ht0, ht1, hts, htb] at this; exact this)
      have hSs : Hid (∀ (w : World) (A : Option Addr) (c : Nat), Rd w w.heap.size A zs.length c zs → Calls Try.prog 17 #[chartV Z0 Z1 (.slice A zs.length c)] w (OutChart w t0 t1 ts tb)) := Lib.hid fun w A c h => (by have := specStripBorder_any Z0 Z1 A _ c _ zs w h (Nat.le_refl _); rw [ht0, ht1, hts, htb] at this; exact this)
      clear ht0 ht1 hts htb hsm
      have ebZ0 := bZ.cell 0
      have ebZ1 := bZ.cell 1
      have ebZ2 := bZ.cell 2
      have zbZ := bZ.lt
      go_wp2_with fail
      refine (hSi.out _ _ _ OZ.rd).mono ?_
      rintro e w9 ⟨A14, c14, rfl, own, hb⟩
      clear ebZ0 ebZ1 ebZ2 zbZ
      replace OZ := OZ.all hb
      replace bZ := bZ.all hb
      replace R := R.all hb HB.size
      have OS1 := own.mono HB.size
      clear own
      replace HB := HB.trans (hb.mono HB.size)
      clear hb
      replace OZ := OZ.alloc (.cells #[.int .i64 t0, .int .i64 t1, .slice A14 ts.length c14] 26)
      replace OS1 := OS1.alloc (.cells #[.int .i64 t0, .int .i64 t1, .slice A14 ts.length c14] 26)
      replace bZ := bZ.alloc (.cells #[.int .i64 t0, .int .i64 t1, .slice A14 ts.length c14] 26)
      replace R := R.alloc HB.size (.cells #[.int .i64 t0, .int .i64 t1, .slice A14 ts.length c14] 26)
      have bS1 := Blk.new w9 #[.int .i64 t0, .int .i64 t1, .slice A14 ts.length c14] 26
      replace HB := HB.alloc HB.size (.cells #[.int .i64 t0, .int .i64 t1, .slice A14 ts.length c14] 26)
      have ebZ0 := bZ.cell 0
      have ebZ1 := bZ.cell 1
      have ebZ2 := bZ.cell 2
      have zbZ := bZ.lt
      have ebS10 := bS1.cell 0
      have ebS11 := bS1.cell 1
      have ebS12 := bS1.cell 2
      have zbS1 := bS1.lt
      go_wp2_with fail
      refine (hSs.out _ _ _ OZ.rd).mono ?_
      rintro e w10 ⟨A15, c15, rfl, own, hb⟩
      clear ebZ0 ebZ1 ebZ2 zbZ ebS10 ebS11 ebS12 zbS1
      replace OZ := OZ.all hb
      replace OS1 := OS1.all hb
      replace bZ := bZ.all hb
      replace bS1 := bS1.all hb
      replace R := R.all hb HB.size
      have OS2 := own.mono HB.size
      clear own
      replace HB := HB.trans (hb.mono HB.size)
      clear hb
      replace OZ := OZ.alloc (.cells #[.int .i64 t0, .int .i64 t1, .slice A15 ts.length c15] 26)
      replace OS1 := OS1.alloc (.cells #[.int .i64 t0, .int .i64 t1, .slice A15 ts.length c15] 26)
      replace OS2 := OS2.alloc (.cells #[.int .i64 t0, .int .i64 t1, .slice A15 ts.length c15] 26)
      replace bZ := bZ.alloc (.cells #[.int .i64 t0, .int .i64 t1, .slice A15 ts.length c15] 26)
      replace bS1 := bS1.alloc (.cells #[.int .i64 t0, .int .i64 t1, .slice A15 ts.length c15] 26)
      replace R := R.alloc HB.size (.cells #[.int .i64 t0, .int .i64 t1, .slice A15 ts.length c15] 26)
      have bS2 := Blk.new w10 #[.int .i64 t0, .int .i64 t1, .slice A15 ts.length c15] 26
      replace HB := HB.alloc HB.size (.cells #[.int .i64 t0, .int .i64 t1, .slice A15 ts.length c15] 26)
      clear hSi hSs
      have ebZ0 := bZ.cell 0
      have ebZ1 := bZ.cell 1
      have ebZ2 := bZ.cell 2
      have zbZ := bZ.lt
      have ebS10 := bS1.cell 0
      have ebS11 := bS1.cell 1
      have ebS12 := bS1.cell 2
      have zbS1 := bS1.lt
      have ebS20 := bS2.cell 0
      have ebS21 := bS2.cell 1
      have ebS22 := bS2.cell 2
      have zbS2 := bS2.lt
      go_wp2_with fail
      refine (vChart_same t0 t1 _ _ _ _ _ _ _ _ ts _ OS1.rd OS2.rd (Nat.le_refl _) (Nat.le_refl _)).mono ?_
      rintro e w11 ⟨rfl, hb⟩
      clear ebZ0 ebZ1 ebZ2 zbZ ebS10 ebS11 ebS12 zbS1 ebS20 ebS21 ebS22 zbS2
      replace OZ := OZ.all hb
      replace OS1 := OS1.all hb
      replace OS2 := OS2.all hb
      replace bZ := bZ.all hb
      replace bS1 := bS1.all hb
      replace bS2 := bS2.all hb
      replace R := R.all hb HB.size
      replace HB := HB.trans (hb.mono HB.size)
      clear hb
      clear OZ bZ OS1 OS2 bS1 bS2
      go_wp2_with fail
      refine (drawNearestMeeting_any A n c w.heap.size _ R HB.size hn).mono ?_
      rintro e w12 ⟨n0, n1, n2, rfl, hn0, hn1, hn2, hb⟩
      replace R := R.all hb HB.size
      replace HB := HB.trans (hb.mono HB.size)
      clear hb
      obtain ⟨e0, he0⟩ : ∃ vv, encA (nearF n0 n1 n2) = vv := ⟨_, rfl⟩
      obtain ⟨e1, he1⟩ : ∃ vv, encB (nearF n0 n1 n2) = vv := ⟨_, rfl⟩
      obtain ⟨e2, he2⟩ : ∃ vv, (nearF n0 n1 n2).isSome = vv := ⟨_, rfl⟩
      have hNi : Hid (∀ w : World, Calls Try.prog 19 #[.int .i64 n0, .int .i64 n1, .int .i64 n2] w (Out w (.tuple #[.int .i64 e0, .int .i64 e1, .bool e2]))) := Lib.hid fun w => (by have := implNearestMeeting_any n0 n1 n2 w; rw [he0, he1, he2] at this; exact this)
      have hNs : Hid (∀ w : World, Calls Try.prog 20 #[.int .i64 n0, .int .i64 n1, .int .i64 n2] w (Out w (.tuple #[.int .i64 e0, .int .i64 e1, .bool e2]))) := Lib.hid fun w => (by have := specNearestMeeting_any n0 n1 n2 w; rw [he0, he1, he2] at this; exact this)
      have HNR : Hid (e2 = true → ∃ a b N l : Nat, e0 = (a : Int) ∧ e1 = (b : Int) ∧ n2 = (l : Int) ∧ 1 ≤ l ∧ l ≤ 8 ∧ N ≤ 28 ∧ N % l = 0 ∧ ∀ w : World, Calls Try.prog 15 #[.int .i64 e0, .int .i64 e1] w (Out w (.tuple #[.int .i64 (N : Int), .bool true]))) := Lib.hid fun hh => by
        obtain ⟨a, b, N, l, f0, f1, f2, f3, f4, f5, f6, f7, f8, _, _⟩ := near_facts (he2.trans hh)
        rw [he0] at f0
        rw [he1] at f1
        refine ⟨a, b, N, l, f0, f1, f2, f3, f4, f7, f8, fun w => ?_⟩
        have := implRingLength_any a b w
        rw [f5, f6] at this
        rw [f0, f1]
        exact this
      clear he0 he1 he2 hn0 hn1 hn2
      go_wp2_with fail
      refine (hNi.out _).mono ?_
      rintro e w13 ⟨rfl, hb⟩
      replace R := R.all hb HB.size
      replace HB := HB.trans (hb.mono HB.size)
      clear hb
      go_wp2_with fail
      refine (hNs.out _).mono ?_
      rintro e w14 ⟨rfl, hb⟩
      replace R := R.all hb HB.size
      replace HB := HB.trans (hb.mono HB.size)
      clear hb
      clear hNi hNs
      cases e2
      case false =>
        clear HNR
        go_wp2
        go_ret
        exact ⟨ret_bool (by simp), HB⟩
      case true =>
        obtain ⟨a, b, N, l, f0, f1, rfl, f3, f4, f7, f8, hcl⟩ := HNR.out rfl
        have HCL := Lib.hid hcl
        clear HNR hcl f0 f1
        have hrem : Int.tmod (N : Int) (l : Int) = 0 := by rw [Int.tmod_eq_emod_of_nonneg (by omega)]; omega
        have hl0 : ((l : Int) == 0) = false := by simp; omega
        have hl0' : ¬ (l : Int) = 0 := by omega
        go_wp2_with fail
        refine (HCL.out _).mono ?_
        rintro e w15 ⟨rfl, hb⟩
        replace R := R.all hb HB.size
        replace HB := HB.trans (hb.mono HB.size)
        clear hb
        go_wp2
        go_ret
        exact ⟨ret_bool (by simp), HB⟩
    case true =>
      obtain ⟨N, g1, g2, g3, g4, hcl⟩ := HMF.out rfl
      have HCL := Lib.hid hcl
      clear HMF hcl
      obtain ⟨d, hd⟩ : ∃ d, ys.length = d := ⟨_, rfl⟩
      rw [hd] at g1 g2 g4
      subst g4
      have ebX0 := bX.cell 0
      have ebX1 := bX.cell 1
      have ebX2 := bX.cell 2
      have zbX := bX.lt
      go_wp2_with fail
      refine (HCL.out _).mono ?_
      rintro e w8 ⟨rfl, hb⟩
      clear ebX0 ebX1 ebX2 zbX
      replace bX := bX.all hb
      replace R := R.all hb HB.size
      replace HB := HB.trans (hb.mono HB.size)
      clear hb
      clear HCL
      have hd0 : ((d : Int) == 0) = false := by simp; omega
      have hd0' : ¬ (d : Int) = 0 := by omega
      clear bX
      by_cases hm : N % d = 0
      · have hrem : Int.tmod (N : Int) (d : Int) = 0 := by rw [Int.tmod_eq_emod_of_nonneg (by omega)]; omega
        have hdec : decide (N % d = 0) = true := decide_eq_true hm
        go_wp2_with fail
        refine (drawStripBorder_any A n c w.heap.size _ R HB.size hn).mono ?_
        rintro e w9 ⟨Z0, Z1, A13, c13, zs, rfl, hsm, own, hb⟩
        replace R := R.all hb HB.size
        have OZ := own.mono HB.size
        clear own
        replace HB := HB.trans (hb.mono HB.size)
        clear hb
        replace OZ := OZ.alloc (.cells #[.int .i64 Z0, .int .i64 Z1, .slice A13 zs.length c13] 26)
        replace R := R.alloc HB.size (.cells #[.int .i64 Z0, .int .i64 Z1, .slice A13 zs.length c13] 26)
        have bZ := Blk.new w9 #[.int .i64 Z0, .int .i64 Z1, .slice A13 zs.length c13] 26
        replace HB := HB.alloc HB.size (.cells #[.int .i64 Z0, .int .i64 Z1, .slice A13 zs.length c13] 26)
        obtain ⟨t0, ht0⟩ : ∃ vv, orZero (stripOk Z0 Z1 zs) (Z0 - 2) = vv := ⟨_, rfl⟩
        obtain ⟨t1, ht1⟩ : ∃ vv, orZero (stripOk Z0 Z1 zs) (Z1 - 2) = vv := ⟨_, rfl⟩
        obtain ⟨ts, hts⟩ : ∃ vv, stripX Z0 Z1 zs = vv := ⟨_, rfl⟩
        obtain ⟨tb, htb⟩ : ∃ vv, stripOk Z0 Z1 zs = vv := ⟨_, rfl⟩
        have hSi : Hid (∀ (w : World) (A : Option Addr) (c : Nat), Rd w w.heap.size A zs.length c zs → Calls Try.prog 9 #[chartV Z0 Z1 (.slice A zs.length c)] w (OutChart w t0 t1 ts tb)) := Lib.hid fun w A c h => (by have := implStripBorder_any Z0 Z1 A _ c _ zs w h (Nat.le_refl _); rw [ht0, ht1, hts, htb] at this; exact this)
        have hSs : Hid (∀ (w : World) (A : Option Addr) (c : Nat), Rd w w.heap.size A zs.length c zs → Calls Try.prog 17 #[chartV Z0 Z1 (.slice A zs.length c)] w (OutChart w t0 t1 ts tb)) := Lib.hid fun w A c h => (by have := specStripBorder_any Z0 Z1 A _ c _ zs w h (Nat.le_refl _); rw [ht0, ht1, hts, htb] at this; exact this)
        clear ht0 ht1 hts htb hsm
        have ebZ0 := bZ.cell 0
        have ebZ1 := bZ.cell 1
        have ebZ2 := bZ.cell 2
        have zbZ := bZ.lt
        go_wp2_with fail
        refine (hSi.out _ _ _ OZ.rd).mono ?_
        rintro e w10 ⟨A14, c14, rfl, own, hb⟩
        clear ebZ0 ebZ1 ebZ2 zbZ
        replace OZ := OZ.all hb
        replace bZ := bZ.all hb
        replace R := R.all hb HB.size
        have OS1 := own.mono HB.size
        clear own
        replace HB := HB.trans (hb.mono HB.size)
        clear hb
        replace OZ := OZ.alloc (.cells #[.int .i64 t0, .int .i64 t1, .slice A14 ts.length c14] 26)
        replace OS1 := OS1.alloc (.cells #[.int .i64 t0, .int .i64 t1, .slice A14 ts.length c14] 26)
        replace bZ := bZ.alloc (.cells #[.int .i64 t0, .int .i64 t1, .slice A14 ts.length c14] 26)
        replace R := R.alloc HB.size (.cells #[.int .i64 t0, .int .i64 t1, .slice A14 ts.length c14] 26)
        have bS1 := Blk.new w10 #[.int .i64 t0, .int .i64 t1, .slice A14 ts.length c14] 26
        replace HB := HB.alloc HB.size (.cells #[.int .i64 t0, .int .i64 t1, .slice A14 ts.length c14] 26)
        have ebZ0 := bZ.cell 0
        have ebZ1 := bZ.cell 1
        have ebZ2 := bZ.cell 2
        have zbZ := bZ.lt
        have ebS10 := bS1.cell 0
        have ebS11 := bS1.cell 1
        have ebS12 := bS1.cell 2
        have zbS1 := bS1.lt
        go_wp2_with fail
        refine (hSs.out _ _ _ OZ.rd).mono ?_
        rintro e w11 ⟨A15, c15, rfl, own, hb⟩
        clear ebZ0 ebZ1 ebZ2 zbZ ebS10 ebS11 ebS12 zbS1
        replace OZ := OZ.all hb
        replace OS1 := OS1.all hb
        replace bZ := bZ.all hb
        replace bS1 := bS1.all hb
        replace R := R.all hb HB.size
        have OS2 := own.mono HB.size
        clear own
        replace HB := HB.trans (hb.mono HB.size)
        clear hb
        replace OZ := OZ.alloc (.cells #[.int .i64 t0, .int .i64 t1, .slice A15 ts.length c15] 26)
        replace OS1 := OS1.alloc (.cells #[.int .i64 t0, .int .i64 t1, .slice A15 ts.length c15] 26)
        replace OS2 := OS2.alloc (.cells #[.int .i64 t0, .int .i64 t1, .slice A15 ts.length c15] 26)
        replace bZ := bZ.alloc (.cells #[.int .i64 t0, .int .i64 t1, .slice A15 ts.length c15] 26)
        replace bS1 := bS1.alloc (.cells #[.int .i64 t0, .int .i64 t1, .slice A15 ts.length c15] 26)
        replace R := R.alloc HB.size (.cells #[.int .i64 t0, .int .i64 t1, .slice A15 ts.length c15] 26)
        have bS2 := Blk.new w11 #[.int .i64 t0, .int .i64 t1, .slice A15 ts.length c15] 26
        replace HB := HB.alloc HB.size (.cells #[.int .i64 t0, .int .i64 t1, .slice A15 ts.length c15] 26)
        clear hSi hSs
        have ebZ0 := bZ.cell 0
        have ebZ1 := bZ.cell 1
        have ebZ2 := bZ.cell 2
        have zbZ := bZ.lt
        have ebS10 := bS1.cell 0
        have ebS11 := bS1.cell 1
        have ebS12 := bS1.cell 2
        have zbS1 := bS1.lt
        have ebS20 := bS2.cell 0
        have ebS21 := bS2.cell 1
        have ebS22 := bS2.cell 2
        have zbS2 := bS2.lt
        go_wp2_with fail
        refine (vChart_same t0 t1 _ _ _ _ _ _ _ _ ts _ OS1.rd OS2.rd (Nat.le_refl _) (Nat.le_refl _)).mono ?_
        rintro e w12 ⟨rfl, hb⟩
        clear ebZ0 ebZ1 ebZ2 zbZ ebS10 ebS11 ebS12 zbS1 ebS20 ebS21 ebS22 zbS2
        replace OZ := OZ.all hb
        replace OS1 := OS1.all hb
        replace OS2 := OS2.all hb
        replace bZ := bZ.all hb
        replace bS1 := bS1.all hb
        replace bS2 := bS2.all hb
        replace R := R.all hb HB.size
        replace HB := HB.trans (hb.mono HB.size)
        clear hb
        clear OZ bZ OS1 OS2 bS1 bS2
        go_wp2_with fail
        refine (drawNearestMeeting_any A n c w.heap.size _ R HB.size hn).mono ?_
        rintro e w13 ⟨n0, n1, n2, rfl, hn0, hn1, hn2, hb⟩
        replace R := R.all hb HB.size
        replace HB := HB.trans (hb.mono HB.size)
        clear hb
        obtain ⟨e0, he0⟩ : ∃ vv, encA (nearF n0 n1 n2) = vv := ⟨_, rfl⟩
        obtain ⟨e1, he1⟩ : ∃ vv, encB (nearF n0 n1 n2) = vv := ⟨_, rfl⟩
        obtain ⟨e2, he2⟩ : ∃ vv, (nearF n0 n1 n2).isSome = vv := ⟨_, rfl⟩
        have hNi : Hid (∀ w : World, Calls Try.prog 19 #[.int .i64 n0, .int .i64 n1, .int .i64 n2] w (Out w (.tuple #[.int .i64 e0, .int .i64 e1, .bool e2]))) := Lib.hid fun w => (by have := implNearestMeeting_any n0 n1 n2 w; rw [he0, he1, he2] at this; exact this)
        have hNs : Hid (∀ w : World, Calls Try.prog 20 #[.int .i64 n0, .int .i64 n1, .int .i64 n2] w (Out w (.tuple #[.int .i64 e0, .int .i64 e1, .bool e2]))) := Lib.hid fun w => (by have := specNearestMeeting_any n0 n1 n2 w; rw [he0, he1, he2] at this; exact this)
        have HNR : Hid (e2 = true → ∃ a b N l : Nat, e0 = (a : Int) ∧ e1 = (b : Int) ∧ n2 = (l : Int) ∧ 1 ≤ l ∧ l ≤ 8 ∧ N ≤ 28 ∧ N % l = 0 ∧ ∀ w : World, Calls Try.prog 15 #[.int .i64 e0, .int .i64 e1] w (Out w (.tuple #[.int .i64 (N : Int), .bool true]))) := Lib.hid fun hh => by
          obtain ⟨a, b, N, l, f0, f1, f2, f3, f4, f5, f6, f7, f8, _, _⟩ := near_facts (he2.trans hh)
          rw [he0] at f0
          rw [he1] at f1
          refine ⟨a, b, N, l, f0, f1, f2, f3, f4, f7, f8, fun w => ?_⟩
          have := implRingLength_any a b w
          rw [f5, f6] at this
          rw [f0, f1]
          exact this
        clear he0 he1 he2 hn0 hn1 hn2
        go_wp2_with fail
        refine (hNi.out _).mono ?_
        rintro e w14 ⟨rfl, hb⟩
        replace R := R.all hb HB.size
        replace HB := HB.trans (hb.mono HB.size)
        clear hb
        go_wp2_with fail
        refine (hNs.out _).mono ?_
        rintro e w15 ⟨rfl, hb⟩
        replace R := R.all hb HB.size
        replace HB := HB.trans (hb.mono HB.size)
        clear hb
        clear hNi hNs
        cases e2
        case false =>
          clear HNR
          go_wp2
          go_ret
          exact ⟨ret_bool (by simp), HB⟩
        case true =>
          obtain ⟨a, b, N, l, f0, f1, rfl, f3, f4, f7, f8, hcl⟩ := HNR.out rfl
          have HCL := Lib.hid hcl
          clear HNR hcl f0 f1
          have hrem : Int.tmod (N : Int) (l : Int) = 0 := by rw [Int.tmod_eq_emod_of_nonneg (by omega)]; omega
          have hl0 : ((l : Int) == 0) = false := by simp; omega
          have hl0' : ¬ (l : Int) = 0 := by omega
          go_wp2_with fail
          refine (HCL.out _).mono ?_
          rintro e w16 ⟨rfl, hb⟩
          replace R := R.all hb HB.size
          replace HB := HB.trans (hb.mono HB.size)
          clear hb
          go_wp2
          go_ret
          exact ⟨ret_bool (by simp), HB⟩
      · obtain ⟨r, hr⟩ : ∃ r : Nat, N % d = r := ⟨_, rfl⟩
        have hrem : Int.tmod (N : Int) (d : Int) = (r : Int) := by rw [Int.tmod_eq_emod_of_nonneg (by omega), ← hr]; omega
        have hr0 : ((r : Int) == 0) = false := by simp; omega
        have hr0' : ¬ (r : Int) = 0 := by omega
        have hdec : decide (N % d = 0) = false := decide_eq_false hm
        go_wp2_with fail
        refine (drawStripBorder_any A n c w.heap.size _ R HB.size hn).mono ?_
        rintro e w9 ⟨Z0, Z1, A13, c13, zs, rfl, hsm, own, hb⟩
        replace R := R.all hb HB.size
        have OZ := own.mono HB.size
        clear own
        replace HB := HB.trans (hb.mono HB.size)
        clear hb
        replace OZ := OZ.alloc (.cells #[.int .i64 Z0, .int .i64 Z1, .slice A13 zs.length c13] 26)
        replace R := R.alloc HB.size (.cells #[.int .i64 Z0, .int .i64 Z1, .slice A13 zs.length c13] 26)
        have bZ := Blk.new w9 #[.int .i64 Z0, .int .i64 Z1, .slice A13 zs.length c13] 26
        replace HB := HB.alloc HB.size (.cells #[.int .i64 Z0, .int .i64 Z1, .slice A13 zs.length c13] 26)
        obtain ⟨t0, ht0⟩ : ∃ vv, orZero (stripOk Z0 Z1 zs) (Z0 - 2) = vv := ⟨_, rfl⟩
        obtain ⟨t1, ht1⟩ : ∃ vv, orZero (stripOk Z0 Z1 zs) (Z1 - 2) = vv := ⟨_, rfl⟩
        obtain ⟨ts, hts⟩ : ∃ vv, stripX Z0 Z1 zs = vv := ⟨_, rfl⟩
        obtain ⟨tb, htb⟩ : ∃ vv, stripOk Z0 Z1 zs = vv := ⟨_, rfl⟩
        have hSi : Hid (∀ (w : World) (A : Option Addr) (c : Nat), Rd w w.heap.size A zs.length c zs → Calls Try.prog 9 #[chartV Z0 Z1 (.slice A zs.length c)] w (OutChart w t0 t1 ts tb)) := Lib.hid fun w A c h => (by have := implStripBorder_any Z0 Z1 A _ c _ zs w h (Nat.le_refl _); rw [ht0, ht1, hts, htb] at this; exact this)
        have hSs : Hid (∀ (w : World) (A : Option Addr) (c : Nat), Rd w w.heap.size A zs.length c zs → Calls Try.prog 17 #[chartV Z0 Z1 (.slice A zs.length c)] w (OutChart w t0 t1 ts tb)) := Lib.hid fun w A c h => (by have := specStripBorder_any Z0 Z1 A _ c _ zs w h (Nat.le_refl _); rw [ht0, ht1, hts, htb] at this; exact this)
        clear ht0 ht1 hts htb hsm
        have ebZ0 := bZ.cell 0
        have ebZ1 := bZ.cell 1
        have ebZ2 := bZ.cell 2
        have zbZ := bZ.lt
        go_wp2_with fail
        refine (hSi.out _ _ _ OZ.rd).mono ?_
        rintro e w10 ⟨A14, c14, rfl, own, hb⟩
        clear ebZ0 ebZ1 ebZ2 zbZ
        replace OZ := OZ.all hb
        replace bZ := bZ.all hb
        replace R := R.all hb HB.size
        have OS1 := own.mono HB.size
        clear own
        replace HB := HB.trans (hb.mono HB.size)
        clear hb
        replace OZ := OZ.alloc (.cells #[.int .i64 t0, .int .i64 t1, .slice A14 ts.length c14] 26)
        replace OS1 := OS1.alloc (.cells #[.int .i64 t0, .int .i64 t1, .slice A14 ts.length c14] 26)
        replace bZ := bZ.alloc (.cells #[.int .i64 t0, .int .i64 t1, .slice A14 ts.length c14] 26)
        replace R := R.alloc HB.size (.cells #[.int .i64 t0, .int .i64 t1, .slice A14 ts.length c14] 26)
        have bS1 := Blk.new w10 #[.int .i64 t0, .int .i64 t1, .slice A14 ts.length c14] 26
        replace HB := HB.alloc HB.size (.cells #[.int .i64 t0, .int .i64 t1, .slice A14 ts.length c14] 26)
        have ebZ0 := bZ.cell 0
        have ebZ1 := bZ.cell 1
        have ebZ2 := bZ.cell 2
        have zbZ := bZ.lt
        have ebS10 := bS1.cell 0
        have ebS11 := bS1.cell 1
        have ebS12 := bS1.cell 2
        have zbS1 := bS1.lt
        go_wp2_with fail
        refine (hSs.out _ _ _ OZ.rd).mono ?_
        rintro e w11 ⟨A15, c15, rfl, own, hb⟩
        clear ebZ0 ebZ1 ebZ2 zbZ ebS10 ebS11 ebS12 zbS1
        replace OZ := OZ.all hb
        replace OS1 := OS1.all hb
        replace bZ := bZ.all hb
        replace bS1 := bS1.all hb
        replace R := R.all hb HB.size
        have OS2 := own.mono HB.size
        clear own
        replace HB := HB.trans (hb.mono HB.size)
        clear hb
        replace OZ := OZ.alloc (.cells #[.int .i64 t0, .int .i64 t1, .slice A15 ts.length c15] 26)
        replace OS1 := OS1.alloc (.cells #[.int .i64 t0, .int .i64 t1, .slice A15 ts.length c15] 26)
        replace OS2 := OS2.alloc (.cells #[.int .i64 t0, .int .i64 t1, .slice A15 ts.length c15] 26)
        replace bZ := bZ.alloc (.cells #[.int .i64 t0, .int .i64 t1, .slice A15 ts.length c15] 26)
        replace bS1 := bS1.alloc (.cells #[.int .i64 t0, .int .i64 t1, .slice A15 ts.length c15] 26)
        replace R := R.alloc HB.size (.cells #[.int .i64 t0, .int .i64 t1, .slice A15 ts.length c15] 26)
        have bS2 := Blk.new w11 #[.int .i64 t0, .int .i64 t1, .slice A15 ts.length c15] 26
        replace HB := HB.alloc HB.size (.cells #[.int .i64 t0, .int .i64 t1, .slice A15 ts.length c15] 26)
        clear hSi hSs
        have ebZ0 := bZ.cell 0
        have ebZ1 := bZ.cell 1
        have ebZ2 := bZ.cell 2
        have zbZ := bZ.lt
        have ebS10 := bS1.cell 0
        have ebS11 := bS1.cell 1
        have ebS12 := bS1.cell 2
        have zbS1 := bS1.lt
        have ebS20 := bS2.cell 0
        have ebS21 := bS2.cell 1
        have ebS22 := bS2.cell 2
        have zbS2 := bS2.lt
        go_wp2_with fail
        refine (vChart_same t0 t1 _ _ _ _ _ _ _ _ ts _ OS1.rd OS2.rd (Nat.le_refl _) (Nat.le_refl _)).mono ?_
        rintro e w12 ⟨rfl, hb⟩
        clear ebZ0 ebZ1 ebZ2 zbZ ebS10 ebS11 ebS12 zbS1 ebS20 ebS21 ebS22 zbS2
        replace OZ := OZ.all hb
        replace OS1 := OS1.all hb
        replace OS2 := OS2.all hb
        replace bZ := bZ.all hb
        replace bS1 := bS1.all hb
        replace bS2 := bS2.all hb
        replace R := R.all hb HB.size
        replace HB := HB.trans (hb.mono HB.size)
        clear hb
        clear OZ bZ OS1 OS2 bS1 bS2
        go_wp2_with fail
        refine (drawNearestMeeting_any A n c w.heap.size _ R HB.size hn).mono ?_
        rintro e w13 ⟨n0, n1, n2, rfl, hn0, hn1, hn2, hb⟩
        replace R := R.all hb HB.size
        replace HB := HB.trans (hb.mono HB.size)
        clear hb
        obtain ⟨e0, he0⟩ : ∃ vv, encA (nearF n0 n1 n2) = vv := ⟨_, rfl⟩
        obtain ⟨e1, he1⟩ : ∃ vv, encB (nearF n0 n1 n2) = vv := ⟨_, rfl⟩
        obtain ⟨e2, he2⟩ : ∃ vv, (nearF n0 n1 n2).isSome = vv := ⟨_, rfl⟩
        have hNi : Hid (∀ w : World, Calls Try.prog 19 #[.int .i64 n0, .int .i64 n1, .int .i64 n2] w (Out w (.tuple #[.int .i64 e0, .int .i64 e1, .bool e2]))) := Lib.hid fun w => (by have := implNearestMeeting_any n0 n1 n2 w; rw [he0, he1, he2] at this; exact this)
        have hNs : Hid (∀ w : World, Calls Try.prog 20 #[.int .i64 n0, .int .i64 n1, .int .i64 n2] w (Out w (.tuple #[.int .i64 e0, .int .i64 e1, .bool e2]))) := Lib.hid fun w => (by have := specNearestMeeting_any n0 n1 n2 w; rw [he0, he1, he2] at this; exact this)
        have HNR : Hid (e2 = true → ∃ a b N l : Nat, e0 = (a : Int) ∧ e1 = (b : Int) ∧ n2 = (l : Int) ∧ 1 ≤ l ∧ l ≤ 8 ∧ N ≤ 28 ∧ N % l = 0 ∧ ∀ w : World, Calls Try.prog 15 #[.int .i64 e0, .int .i64 e1] w (Out w (.tuple #[.int .i64 (N : Int), .bool true]))) := Lib.hid fun hh => by
          obtain ⟨a, b, N, l, f0, f1, f2, f3, f4, f5, f6, f7, f8, _, _⟩ := near_facts (he2.trans hh)
          rw [he0] at f0
          rw [he1] at f1
          refine ⟨a, b, N, l, f0, f1, f2, f3, f4, f7, f8, fun w => ?_⟩
          have := implRingLength_any a b w
          rw [f5, f6] at this
          rw [f0, f1]
          exact this
        clear he0 he1 he2 hn0 hn1 hn2
        go_wp2_with fail
        refine (hNi.out _).mono ?_
        rintro e w14 ⟨rfl, hb⟩
        replace R := R.all hb HB.size
        replace HB := HB.trans (hb.mono HB.size)
        clear hb
        go_wp2_with fail
        refine (hNs.out _).mono ?_
        rintro e w15 ⟨rfl, hb⟩
        replace R := R.all hb HB.size
        replace HB := HB.trans (hb.mono HB.size)
        clear hb
        clear hNi hNs
        cases e2
        case false =>
          clear HNR
          go_wp2
          go_ret
          exact ⟨ret_bool (by simp), HB⟩
        case true =>
          obtain ⟨a, b, N, l, f0, f1, rfl, f3, f4, f7, f8, hcl⟩ := HNR.out rfl
          have HCL := Lib.hid hcl
          clear HNR hcl f0 f1
          have hrem : Int.tmod (N : Int) (l : Int) = 0 := by rw [Int.tmod_eq_emod_of_nonneg (by omega)]; omega
          have hl0 : ((l : Int) == 0) = false := by simp; omega
          have hl0' : ¬ (l : Int) = 0 := by omega
          go_wp2_with fail
          refine (HCL.out _).mono ?_
          rintro e w16 ⟨rfl, hb⟩
          replace R := R.all hb HB.size
          replace HB := HB.trans (hb.mono HB.size)
          clear hb
          go_wp2
          go_ret
          exact ⟨ret_bool (by simp), HB⟩
  case true =>
    obtain ⟨HSt, HMe, HPe, HCo, p1, p8⟩ := HF.out rfl
    clear HF
    have ebC0 := bC.cell 0
    have ebC1 := bC.cell 1
    have ebC2 := bC.cell 2
    have zbC := bC.lt
    have ebO0 := bO.cell 0
    have ebO1 := bO.cell 1
    have ebO2 := bO.cell 2
    have zbO := bO.lt
    go_wp2_with fail
    refine (HSt.out _ _ _ OO.rd).mono ?_
    rintro e w5 ⟨A9, c9, rfl, own, hb⟩
    clear ebC0 ebC1 ebC2 zbC ebO0 ebO1 ebO2 zbO
    replace OX := OX.all hb
    replace OP := OP.all hb
    replace OO := OO.all hb
    replace bC := bC.all hb
    replace bO := bO.all hb
    replace R := R.all hb HB.size
    have OB := own.mono HB.size
    clear own
    replace HB := HB.trans (hb.mono HB.size)
    clear hb
    replace OX := OX.alloc (.cells #[.int .i64 W, .int .i64 H, .slice A9 xs.length c9] 26)
    replace OP := OP.alloc (.cells #[.int .i64 W, .int .i64 H, .slice A9 xs.length c9] 26)
    replace OO := OO.alloc (.cells #[.int .i64 W, .int .i64 H, .slice A9 xs.length c9] 26)
    replace OB := OB.alloc (.cells #[.int .i64 W, .int .i64 H, .slice A9 xs.length c9] 26)
    replace bC := bC.alloc (.cells #[.int .i64 W, .int .i64 H, .slice A9 xs.length c9] 26)
    replace bO := bO.alloc (.cells #[.int .i64 W, .int .i64 H, .slice A9 xs.length c9] 26)
    replace R := R.alloc HB.size (.cells #[.int .i64 W, .int .i64 H, .slice A9 xs.length c9] 26)
    have bB := Blk.new w5 #[.int .i64 W, .int .i64 H, .slice A9 xs.length c9] 26
    replace HB := HB.alloc HB.size (.cells #[.int .i64 W, .int .i64 H, .slice A9 xs.length c9] 26)
    have ebC0 := bC.cell 0
    have ebC1 := bC.cell 1
    have ebC2 := bC.cell 2
    have zbC := bC.lt
    have ebO0 := bO.cell 0
    have ebO1 := bO.cell 1
    have ebO2 := bO.cell 2
    have zbO := bO.lt
    have ebB0 := bB.cell 0
    have ebB1 := bB.cell 1
    have ebB2 := bB.cell 2
    have zbB := bB.lt
    go_wp2_with fail
    refine (HMe.out _ _ _ _ _ OO.rd OP.rd).mono ?_
    rintro e w6 ⟨rfl, hb⟩
    clear ebC0 ebC1 ebC2 zbC ebO0 ebO1 ebO2 zbO ebB0 ebB1 ebB2 zbB
    replace OX := OX.all hb
    replace OP := OP.all hb
    replace OO := OO.all hb
    replace OB := OB.all hb
    replace bC := bC.all hb
    replace bO := bO.all hb
    replace bB := bB.all hb
    replace R := R.all hb HB.size
    replace HB := HB.trans (hb.mono HB.size)
    clear hb
    obtain ⟨p, q1, q2, hpe⟩ := HPe.out
    have HPE := Lib.hid hpe
    clear hpe HPe
    have ebC0 := bC.cell 0
    have ebC1 := bC.cell 1
    have ebC2 := bC.cell 2
    have zbC := bC.lt
    have ebO0 := bO.cell 0
    have ebO1 := bO.cell 1
    have ebO2 := bO.cell 2
    have zbO := bO.lt
    have ebB0 := bB.cell 0
    have ebB1 := bB.cell 1
    have ebB2 := bB.cell 2
    have zbB := bB.lt
    go_wp2_with fail
    refine (HPE.out _ _ _ OO.rd).mono ?_
    rintro e w7 ⟨rfl, hb⟩
    clear ebC0 ebC1 ebC2 zbC ebO0 ebO1 ebO2 zbO ebB0 ebB1 ebB2 zbB
    replace OX := OX.all hb
    replace OP := OP.all hb
    replace OO := OO.all hb
    replace OB := OB.all hb
    replace bC := bC.all hb
    replace bO := bO.all hb
    replace bB := bB.all hb
    replace R := R.all hb HB.size
    replace HB := HB.trans (hb.mono HB.size)
    clear hb
    obtain ⟨cv, k4, k5, hco⟩ := HCo.out
    have HCC := Lib.hid hco
    clear hco HCo
    have ebC0 := bC.cell 0
    have ebC1 := bC.cell 1
    have ebC2 := bC.cell 2
    have zbC := bC.lt
    have ebO0 := bO.cell 0
    have ebO1 := bO.cell 1
    have ebO2 := bO.cell 2
    have zbO := bO.lt
    have ebB0 := bB.cell 0
    have ebB1 := bB.cell 1
    have ebB2 := bB.cell 2
    have zbB := bB.lt
    go_wp2_with fail
    refine (HCC.out _ _ _ OO.rd).mono ?_
    rintro e w8 ⟨A10, c10, rfl, own, hb⟩
    clear ebC0 ebC1 ebC2 zbC ebO0 ebO1 ebO2 zbO ebB0 ebB1 ebB2 zbB
    replace OX := OX.all hb
    replace OP := OP.all hb
    replace OO := OO.all hb
    replace OB := OB.all hb
    replace bC := bC.all hb
    replace bO := bO.all hb
    replace bB := bB.all hb
    replace R := R.all hb HB.size
    have OC := own.mono HB.size
    clear own
    replace HB := HB.trans (hb.mono HB.size)
    clear hb
    clear HSt HMe HPE HCC
    clear OO bO
    have hp1 : decide ((p : Int) < 1) = false := decide_eq_false (by omega)
    have hp2 : decide ((ps.length : Int) < (p : Int)) = false := decide_eq_false (by omega)
    have hps0 : (0 : Int) < (ps.length : Int) := by omega
    have hp2n : decide (ps.length < p) = false := decide_eq_false (by omega)
    have hp2m : ¬ ps.length < p := by omega
    have hps1 : 0 < ps.length := by omega
    have OCr := OC.rd
    rw [k4] at OCr
    obtain ⟨cb, co, x, ecA, hcb, hcx, _, _, HXx⟩ := OCr.at (show 0 < 4 by omega)
    obtain ⟨pb, pf, y, epA, hpb, hcy, _, _, HYy⟩ := OP.rd.at (show 0 < ps.length by omega)
    obtain rfl : x = y := by rw [← HXx.out, ← HYy.out]; exact k5
    clear HXx HYy k5
    subst ecA
    subst epA
    rw [Nat.add_zero] at hcx hcy
    have ebC0 := bC.cell 0
    have ebC1 := bC.cell 1
    have ebC2 := bC.cell 2
    have zbC := bC.lt
    have ebB0 := bB.cell 0
    have ebB1 := bB.cell 1
    have ebB2 := bB.cell 2
    have zbB := bB.lt
    have hQB := bB.lt
    obtain ⟨QB, hQ⟩ : ∃ q, w5.heap.size = q := ⟨_, rfl⟩
    rw [hQ] at bB hQB zbB ebB0 ebB1 ebB2 ⊢
    clear hQ
    go_wp2
    refine wp_region_noPanic ?_
    refine wp_region_held_drew (S := (fun w' => w'.cell? ⟨QB, 0, none⟩ = some (.int .i64 W) ∧ w'.cell? ⟨QB, 1, none⟩ = some (.int .i64 H) ∧ w'.cell? ⟨QB, 2, none⟩ = some (.slice A9 xs.length c9) ∧ w'.cell? ⟨w1.heap.size, 0, none⟩ = some (.int .i64 W) ∧ w'.cell? ⟨w1.heap.size, 1, none⟩ = some (.int .i64 H) ∧ w'.cell? ⟨w1.heap.size, 2, none⟩ = some (.slice A2 xs.length c2) ∧ w'.cell? ⟨cb, co, none⟩ = some (.int .i64 x) ∧ w'.cell? ⟨pb, pf, none⟩ = some (.int .i64 x))) (by kernel_rfl) (by exact ⟨bB.cell 0, bB.cell 1, bB.cell 2, bC.cell 0, bC.cell 1, bC.cell 2, hcx, hcy⟩) (fun hHeld => ?_)
    refine wpAnyH_take (i := 0) (v := ?_) rfl (by kernel_rfl) (by kernel_rfl) (by kernel_rfl) (fun _ _ _ h => h) (Or.inl ⟨by rfl, ?_⟩) (by assumption) ?_
    rotate_left
    · intro w hSw; (try dsimp only at hSw); go_simp; (try with_reducible rfl)
    (try simp only [Act.put, List.getElem_toArray, List.getElem_cons_zero, List.setIfInBounds_toArray, List.set_cons_zero, List.set_cons_succ])
    refine wpAnyH_take (i := 1) (v := ?_) rfl (by kernel_rfl) (by kernel_rfl) (by kernel_rfl) (fun _ _ _ h => h) (Or.inl ⟨by rfl, ?_⟩) (by assumption) ?_
    rotate_left
    · intro w hSw; (try dsimp only at hSw); go_simp; (try with_reducible rfl)
    (try simp only [Act.put, List.getElem_toArray, List.getElem_cons_zero, List.getElem_cons_succ, List.setIfInBounds_toArray, List.set_cons_zero, List.set_cons_succ])
    refine wpAnyH_take (i := 2) (v := ?_) rfl (by kernel_rfl) (by kernel_rfl) (by kernel_rfl) (fun _ _ _ h => h) (Or.inl ⟨by rfl, ?_⟩) (by assumption) ?_
    rotate_left
    · intro w hSw; (try dsimp only at hSw); go_simp; (try with_reducible rfl)
    (try simp only [Act.put, List.getElem_toArray, List.getElem_cons_zero, List.getElem_cons_succ, List.setIfInBounds_toArray, List.set_cons_zero, List.set_cons_succ])
    refine wpAnyH_take (i := 3) (v := ?_) rfl (by kernel_rfl) (by kernel_rfl) (by kernel_rfl) (fun _ _ _ h => h) (Or.inl ⟨by rfl, ?_⟩) (by assumption) ?_
    rotate_left
    · intro w hSw; (try dsimp only at hSw); go_simp; (try with_reducible rfl)
    (try simp only [Act.put, List.getElem_toArray, List.getElem_cons_zero, List.getElem_cons_succ, List.setIfInBounds_toArray, List.set_cons_zero, List.set_cons_succ])
    refine wpAnyH_take (i := 4) (v := ?_) rfl (by kernel_rfl) (by kernel_rfl) (by kernel_rfl) (fun _ _ _ h => h) (Or.inl ⟨by rfl, ?_⟩) (by assumption) ?_
    rotate_left
    · intro w hSw; (try dsimp only at hSw); go_simp; (try with_reducible rfl)
    (try simp only [Act.put, List.getElem_toArray, List.getElem_cons_zero, List.getElem_cons_succ, List.setIfInBounds_toArray, List.set_cons_zero, List.set_cons_succ])
    refine wpAnyH_ready (rs := [5]) (by kernel_rfl) (by simp) ?_
    refine AllReadyH.cons rfl (fun K hK => ?_) AllReadyH.nil
    go_simp
    ((with_reducible refine (vChart_same W H _ _ _ _ _ _ _ _ xs _ OB.rd.drew OX.rd.drew (Nat.le_refl _) (Nat.le_refl _)).mono ?_); rintro e w30 ⟨rfl, hb⟩; (replace hb := below_drew' hb); replace hcx := cells_of hb hcx hcb; replace hcy := cells_of hb hcy hpb; replace bB := bB.all hb; replace bC := bC.all hb; replace R := R.all hb HB.size; replace HB := HB.trans (hb.mono HB.size); clear hb)
    refine hK.out _ _ (by exact ⟨bB.cell 0, bB.cell 1, bB.cell 2, bC.cell 0, bC.cell 1, bC.cell 2, hcx, hcy⟩) (fun hHeld => ?_)
    clear hK K
    (try simp only [Act.put, List.getElem_toArray, List.getElem_cons_zero, List.getElem_cons_succ, List.setIfInBounds_toArray, List.set_cons_zero, List.set_cons_succ])
    refine wpAnyH_take (i := 6) (v := ?_) rfl (by kernel_rfl) (by kernel_rfl) (by kernel_rfl) (fun _ _ _ h => h) (Or.inl ⟨by rfl, ?_⟩) (by assumption) ?_
    rotate_left
    · intro w hSw; (try dsimp only at hSw); go_simp; (try with_reducible rfl)
    (try simp only [Act.put, List.getElem_toArray, List.getElem_cons_zero, List.getElem_cons_succ, List.setIfInBounds_toArray, List.set_cons_zero, List.set_cons_succ])
    refine wpAnyH_take (i := 7) (v := ?_) rfl (by kernel_rfl) (by kernel_rfl) (by kernel_rfl) (fun _ _ _ h => h) (Or.inl ⟨by rfl, ?_⟩) (by assumption) ?_
    rotate_left
    · intro w hSw; (try dsimp only at hSw); go_simp; (try with_reducible rfl)
    (try simp only [Act.put, List.getElem_toArray, List.getElem_cons_zero, List.getElem_cons_succ, List.setIfInBounds_toArray, List.set_cons_zero, List.set_cons_succ])
    refine wpAnyH_take (i := 8) (v := ?_) rfl (by kernel_rfl) (by kernel_rfl) (by kernel_rfl) (fun _ _ _ h => h) (Or.inl ⟨by rfl, ?_⟩) (by assumption) ?_
    rotate_left
    · intro w hSw; (try dsimp only at hSw); go_simp; (try with_reducible rfl)
    (try simp only [Act.put, List.getElem_toArray, List.getElem_cons_zero, List.getElem_cons_succ, List.setIfInBounds_toArray, List.set_cons_zero, List.set_cons_succ])
    refine wpAnyH_take (i := 9) (v := ?_) rfl (by kernel_rfl) (by kernel_rfl) (by kernel_rfl) (fun _ _ _ h => h) (Or.inl ⟨by rfl, ?_⟩) (by assumption) ?_
    rotate_left
    · intro w hSw; (try dsimp only at hSw); go_simp; (try with_reducible rfl)
    (try simp only [Act.put, List.getElem_toArray, List.getElem_cons_zero, List.getElem_cons_succ, List.setIfInBounds_toArray, List.set_cons_zero, List.set_cons_succ])
    refine wpAnyH_take (i := 10) (v := ?_) rfl (by kernel_rfl) (by kernel_rfl) (by kernel_rfl) (fun _ _ _ h => h) (Or.inl ⟨by rfl, ?_⟩) (by assumption) ?_
    rotate_left
    · intro w hSw; (try dsimp only at hSw); go_simp; (try with_reducible rfl)
    (try simp only [Act.put, List.getElem_toArray, List.getElem_cons_zero, List.getElem_cons_succ, List.setIfInBounds_toArray, List.set_cons_zero, List.set_cons_succ])
    refine wpAnyH_take (i := 11) (v := ?_) rfl (by kernel_rfl) (by kernel_rfl) (by kernel_rfl) (fun _ _ _ h => h) (Or.inl ⟨by rfl, ?_⟩) (by assumption) ?_
    rotate_left
    · intro w hSw; (try dsimp only at hSw); go_simp; (try with_reducible rfl)
    (try simp only [Act.put, List.getElem_toArray, List.getElem_cons_zero, List.getElem_cons_succ, List.setIfInBounds_toArray, List.set_cons_zero, List.set_cons_succ])
    refine wpAnyH_take (i := 12) (v := ?_) rfl (by kernel_rfl) (by kernel_rfl) (by kernel_rfl) (fun _ _ _ h => h) (Or.inl ⟨by rfl, ?_⟩) (by assumption) ?_
    rotate_left
    · intro w hSw; (try dsimp only at hSw); go_simp; (try with_reducible rfl)
    (try simp only [Act.put, List.getElem_toArray, List.getElem_cons_zero, List.getElem_cons_succ, List.setIfInBounds_toArray, List.set_cons_zero, List.set_cons_succ])
    refine wpAnyH_take (i := 13) (v := ?_) rfl (by kernel_rfl) (by kernel_rfl) (by kernel_rfl) (fun _ _ _ h => h) (Or.inl ⟨by rfl, ?_⟩) (by assumption) ?_
    rotate_left
    · intro w hSw; (try dsimp only at hSw); go_simp; (try with_reducible rfl)
    (try simp only [Act.put, List.getElem_toArray, List.getElem_cons_zero, List.getElem_cons_succ, List.setIfInBounds_toArray, List.set_cons_zero, List.set_cons_succ])
    refine wpAnyH_take (i := 14) (v := ?_) rfl (by kernel_rfl) (by kernel_rfl) (by kernel_rfl) (fun _ _ _ h => h) (Or.inl ⟨by rfl, ?_⟩) (by assumption) ?_
    rotate_left
    · intro w hSw; (try dsimp only at hSw); go_simp; (try with_reducible rfl)
    (try simp only [Act.put, List.getElem_toArray, List.getElem_cons_zero, List.getElem_cons_succ, List.setIfInBounds_toArray, List.set_cons_zero, List.set_cons_succ])
    refine wpAnyH_take (i := 15) (v := ?_) rfl (by kernel_rfl) (by kernel_rfl) (by kernel_rfl) (fun _ _ _ h => h) (Or.inl ⟨by rfl, ?_⟩) (by assumption) ?_
    rotate_left
    · intro w hSw; (try dsimp only at hSw); go_simp; (try with_reducible rfl)
    (try simp only [Act.put, List.getElem_toArray, List.getElem_cons_zero, List.getElem_cons_succ, List.setIfInBounds_toArray, List.set_cons_zero, List.set_cons_succ])
    refine wpAnyH_take (i := 16) (v := ?_) rfl (by kernel_rfl) (by kernel_rfl) (by kernel_rfl) (fun _ _ _ h => h) (Or.inl ⟨by rfl, ?_⟩) (by assumption) ?_
    rotate_left
    · intro w hSw; (try dsimp only at hSw); go_simp; (try with_reducible rfl)
    (try simp only [Act.put, List.getElem_toArray, List.getElem_cons_zero, List.getElem_cons_succ, List.setIfInBounds_toArray, List.set_cons_zero, List.set_cons_succ])
    refine wpAnyH_take (i := 17) (v := ?_) rfl (by kernel_rfl) (by kernel_rfl) (by kernel_rfl) (fun _ _ _ h => h) (Or.inl ⟨by rfl, ?_⟩) (by assumption) ?_
    rotate_left
    · intro w hSw; (try dsimp only at hSw); go_simp; (try with_reducible rfl)
    (try simp only [Act.put, List.getElem_toArray, List.getElem_cons_zero, List.getElem_cons_succ, List.setIfInBounds_toArray, List.set_cons_zero, List.set_cons_succ])
    refine wpAnyH_take (i := 18) (v := ?_) rfl (by kernel_rfl) (by kernel_rfl) (by kernel_rfl) (fun _ _ _ h => h) (Or.inl ⟨by rfl, ?_⟩) (by assumption) ?_
    rotate_left
    · intro w hSw; (try dsimp only at hSw); go_simp; (try with_reducible rfl)
    (try simp only [Act.put, List.getElem_toArray, List.getElem_cons_zero, List.getElem_cons_succ, List.setIfInBounds_toArray, List.set_cons_zero, List.set_cons_succ])
    refine wpAnyH_take (i := 19) (v := ?_) rfl (by kernel_rfl) (by kernel_rfl) (by kernel_rfl) (fun _ _ _ h => h) (Or.inl ⟨by rfl, ?_⟩) (by assumption) ?_
    rotate_left
    · intro w hSw; (try dsimp only at hSw); go_simp; (try with_reducible rfl)
    (try simp only [Act.put, List.getElem_toArray, List.getElem_cons_zero, List.getElem_cons_succ, List.setIfInBounds_toArray, List.set_cons_zero, List.set_cons_succ])
    refine wpAnyH_take (i := 20) (v := ?_) rfl (by kernel_rfl) (by kernel_rfl) (by kernel_rfl) (fun _ _ _ h => h) (Or.inl ⟨by rfl, ?_⟩) (by assumption) ?_
    rotate_left
    · intro w hSw; (try dsimp only at hSw); go_simp; (try with_reducible rfl)
    (try simp only [Act.put, List.getElem_toArray, List.getElem_cons_zero, List.getElem_cons_succ, List.setIfInBounds_toArray, List.set_cons_zero, List.set_cons_succ])
    refine wpAnyH_take (i := 21) (v := ?_) rfl (by kernel_rfl) (by kernel_rfl) (by kernel_rfl) (fun _ _ _ h => h) (Or.inl ⟨by rfl, ?_⟩) (by assumption) ?_
    rotate_left
    · intro w hSw; (try dsimp only at hSw); go_simp; (try with_reducible rfl)
    (try simp only [Act.put, List.getElem_toArray, List.getElem_cons_zero, List.getElem_cons_succ, List.setIfInBounds_toArray, List.set_cons_zero, List.set_cons_succ])
    refine wpAnyH_take (i := 22) (v := ?_) rfl (by kernel_rfl) (by kernel_rfl) (by kernel_rfl) (fun _ _ _ h => h) (Or.inl ⟨by rfl, ?_⟩) (by assumption) ?_
    rotate_left
    · intro w hSw; (try dsimp only at hSw); go_simp; (try with_reducible rfl)
    (try simp only [Act.put, List.getElem_toArray, List.getElem_cons_zero, List.getElem_cons_succ, List.setIfInBounds_toArray, List.set_cons_zero, List.set_cons_succ])
    refine wpAnyH_take (i := 23) (v := ?_) rfl (by kernel_rfl) (by kernel_rfl) (by kernel_rfl) (fun _ _ _ h => h) (Or.inl ⟨by rfl, ?_⟩) (by assumption) ?_
    rotate_left
    · intro w hSw; (try dsimp only at hSw); go_simp; (try with_reducible rfl)
    (try simp only [Act.put, List.getElem_toArray, List.getElem_cons_zero, List.getElem_cons_succ, List.setIfInBounds_toArray, List.set_cons_zero, List.set_cons_succ])
    refine wpAnyH_take (i := 24) (v := ?_) rfl (by kernel_rfl) (by kernel_rfl) (by kernel_rfl) (fun _ _ _ h => h) (Or.inl ⟨by rfl, ?_⟩) (by assumption) ?_
    rotate_left
    · intro w hSw; (try dsimp only at hSw); go_simp; (try with_reducible rfl)
    (try simp only [Act.put, List.getElem_toArray, List.getElem_cons_zero, List.getElem_cons_succ, List.setIfInBounds_toArray, List.set_cons_zero, List.set_cons_succ])
    refine wpAnyH_take (i := 25) (v := ?_) rfl (by kernel_rfl) (by kernel_rfl) (by kernel_rfl) (fun _ _ _ h => h) (Or.inl ⟨by rfl, ?_⟩) (by assumption) ?_
    rotate_left
    · intro w hSw; (try dsimp only at hSw); go_simp; (try with_reducible rfl)
    (try simp only [Act.put, List.getElem_toArray, List.getElem_cons_zero, List.getElem_cons_succ, List.setIfInBounds_toArray, List.set_cons_zero, List.set_cons_succ])
    refine wpAnyH_take (i := 26) (v := ?_) rfl (by kernel_rfl) (by kernel_rfl) (by kernel_rfl) (fun _ _ _ h => h) (Or.inl ⟨by rfl, ?_⟩) (by assumption) ?_
    rotate_left
    · intro w hSw; (try dsimp only at hSw); go_simp; (try with_reducible rfl)
    (try simp only [Act.put, List.getElem_toArray, List.getElem_cons_zero, List.getElem_cons_succ, List.setIfInBounds_toArray, List.set_cons_zero, List.set_cons_succ])
    refine wpAnyH_take (i := 27) (v := ?_) rfl (by kernel_rfl) (by kernel_rfl) (by kernel_rfl) (fun _ _ _ h => h) (Or.inl ⟨by rfl, ?_⟩) (by assumption) ?_
    rotate_left
    · intro w hSw; (try dsimp only at hSw); go_simp; (try with_reducible rfl)
    (try simp only [Act.put, List.getElem_toArray, List.getElem_cons_zero, List.getElem_cons_succ, List.setIfInBounds_toArray, List.set_cons_zero, List.set_cons_succ])
    refine wpAnyH_take (i := 28) (v := ?_) rfl (by kernel_rfl) (by kernel_rfl) (by kernel_rfl) (fun _ _ _ h => h) (Or.inl ⟨by rfl, ?_⟩) (by assumption) ?_
    rotate_left
    · intro w hSw; (try dsimp only at hSw); go_simp; (try with_reducible rfl)
    (try simp only [Act.put, List.getElem_toArray, List.getElem_cons_zero, List.getElem_cons_succ, List.setIfInBounds_toArray, List.set_cons_zero, List.set_cons_succ])
    refine wpAnyH_take (i := 29) (v := ?_) rfl (by kernel_rfl) (by kernel_rfl) (by kernel_rfl) (fun _ _ _ h => h) (Or.inl ⟨by rfl, ?_⟩) (by assumption) ?_
    rotate_left
    · intro w hSw; (try dsimp only at hSw); go_simp; (try with_reducible rfl)
    (try simp only [Act.put, List.getElem_toArray, List.getElem_cons_zero, List.getElem_cons_succ, List.setIfInBounds_toArray, List.set_cons_zero, List.set_cons_succ])
    refine wpAnyH_take (i := 30) (v := ?_) rfl (by kernel_rfl) (by kernel_rfl) (by kernel_rfl) (fun _ _ _ h => h) (Or.inl ⟨by rfl, ?_⟩) (by assumption) ?_
    rotate_left
    · intro w hSw; (try dsimp only at hSw); go_simp; (try with_reducible rfl)
    (try simp only [Act.put, List.getElem_toArray, List.getElem_cons_zero, List.getElem_cons_succ, List.setIfInBounds_toArray, List.set_cons_zero, List.set_cons_succ])
    refine wpAnyH_take (i := 31) (v := ?_) rfl (by kernel_rfl) (by kernel_rfl) (by kernel_rfl) (fun _ _ _ h => h) (Or.inl ⟨by rfl, ?_⟩) (by assumption) ?_
    rotate_left
    · intro w hSw; (try dsimp only at hSw); go_simp; (try with_reducible rfl)
    (try simp only [Act.put, List.getElem_toArray, List.getElem_cons_zero, List.getElem_cons_succ, List.setIfInBounds_toArray, List.set_cons_zero, List.set_cons_succ])
    refine wpAnyH_take (i := 32) (v := ?_) rfl (by kernel_rfl) (by kernel_rfl) (by kernel_rfl) (fun _ _ _ h => h) (Or.inl ⟨by rfl, ?_⟩) (by assumption) ?_
    rotate_left
    · intro w hSw; (try dsimp only at hSw); go_simp; (try with_reducible rfl)
    (try simp only [Act.put, List.getElem_toArray, List.getElem_cons_zero, List.getElem_cons_succ, List.setIfInBounds_toArray, List.set_cons_zero, List.set_cons_succ])
    refine wpAnyH_take (i := 33) (v := ?_) rfl (by kernel_rfl) (by kernel_rfl) (by kernel_rfl) (fun _ _ _ h => h) (Or.inl ⟨by rfl, ?_⟩) (by assumption) ?_
    rotate_left
    · intro w hSw; (try dsimp only at hSw); go_simp; (try with_reducible rfl)
    (try simp only [Act.put, List.getElem_toArray, List.getElem_cons_zero, List.getElem_cons_succ, List.setIfInBounds_toArray, List.set_cons_zero, List.set_cons_succ])
    refine wpAnyH_take (i := 34) (v := ?_) rfl (by kernel_rfl) (by kernel_rfl) (by kernel_rfl) (fun _ _ _ h => h) (Or.inl ⟨by rfl, ?_⟩) (by assumption) ?_
    rotate_left
    · intro w hSw; (try dsimp only at hSw); go_simp; (try with_reducible rfl)
    (try simp only [Act.put, List.getElem_toArray, List.getElem_cons_zero, List.getElem_cons_succ, List.setIfInBounds_toArray, List.set_cons_zero, List.set_cons_succ])
    refine wpAnyH_take (i := 35) (v := ?_) rfl (by kernel_rfl) (by kernel_rfl) (by kernel_rfl) (fun _ _ _ h => h) (Or.inl ⟨by rfl, ?_⟩) (by assumption) ?_
    rotate_left
    · intro w hSw; (try dsimp only at hSw); go_simp; (try with_reducible rfl)
    (try simp only [Act.put, List.getElem_toArray, List.getElem_cons_zero, List.getElem_cons_succ, List.setIfInBounds_toArray, List.set_cons_zero, List.set_cons_succ])
    refine wpAnyH_take (i := 36) (v := ?_) rfl (by kernel_rfl) (by kernel_rfl) (by kernel_rfl) (fun _ _ _ h => h) (Or.inl ⟨by rfl, ?_⟩) (by assumption) ?_
    rotate_left
    · intro w hSw; (try dsimp only at hSw); go_simp; (try with_reducible rfl)
    (try simp only [Act.put, List.getElem_toArray, List.getElem_cons_zero, List.getElem_cons_succ, List.setIfInBounds_toArray, List.set_cons_zero, List.set_cons_succ])
    refine wpAnyH_take (i := 37) (v := ?_) rfl (by kernel_rfl) (by kernel_rfl) (by kernel_rfl) (fun _ _ _ h => h) (Or.inl ⟨by rfl, ?_⟩) (by assumption) ?_
    rotate_left
    · intro w hSw; (try dsimp only at hSw); go_simp; (try with_reducible rfl)
    (try simp only [Act.put, List.getElem_toArray, List.getElem_cons_zero, List.getElem_cons_succ, List.setIfInBounds_toArray, List.set_cons_zero, List.set_cons_succ])
    refine wpAnyH_take (i := 38) (v := ?_) rfl (by kernel_rfl) (by kernel_rfl) (by kernel_rfl) (fun _ _ _ h => h) (Or.inl ⟨by rfl, ?_⟩) (by assumption) ?_
    rotate_left
    · intro w hSw; (try dsimp only at hSw); go_simp; (try with_reducible rfl)
    (try simp only [Act.put, List.getElem_toArray, List.getElem_cons_zero, List.getElem_cons_succ, List.setIfInBounds_toArray, List.set_cons_zero, List.set_cons_succ])
    refine wpAnyH_take (i := 39) (v := ?_) rfl (by kernel_rfl) (by kernel_rfl) (by kernel_rfl) (fun _ _ _ h => h) (Or.inl ⟨by rfl, ?_⟩) (by assumption) ?_
    rotate_left
    · intro w hSw; (try dsimp only at hSw); go_simp; (try with_reducible rfl)
    (try simp only [Act.put, List.getElem_toArray, List.getElem_cons_zero, List.getElem_cons_succ, List.setIfInBounds_toArray, List.set_cons_zero, List.set_cons_succ])
    refine wpAnyH_take (i := 40) (v := ?_) rfl (by kernel_rfl) (by kernel_rfl) (by kernel_rfl) (fun _ _ _ h => h) (Or.inl ⟨by rfl, ?_⟩) (by assumption) ?_
    rotate_left
    · intro w hSw; (try dsimp only at hSw); go_simp; (try with_reducible rfl)
    (try simp only [Act.put, List.getElem_toArray, List.getElem_cons_zero, List.getElem_cons_succ, List.setIfInBounds_toArray, List.set_cons_zero, List.set_cons_succ])
    refine wpAnyH_take (i := 41) (v := ?_) rfl (by kernel_rfl) (by kernel_rfl) (by kernel_rfl) (fun _ _ _ h => h) (Or.inl ⟨by rfl, ?_⟩) (by assumption) ?_
    rotate_left
    · intro w hSw; (try dsimp only at hSw); go_simp; (try with_reducible rfl)
    (try simp only [Act.put, List.getElem_toArray, List.getElem_cons_zero, List.getElem_cons_succ, List.setIfInBounds_toArray, List.set_cons_zero, List.set_cons_succ])
    refine wpAnyH_take (i := 42) (v := ?_) rfl (by kernel_rfl) (by kernel_rfl) (by kernel_rfl) (fun _ _ _ h => h) (Or.inl ⟨by rfl, ?_⟩) (by assumption) ?_
    rotate_left
    · intro w hSw; (try dsimp only at hSw); go_simp; (try with_reducible rfl)
    (try simp only [Act.put, List.getElem_toArray, List.getElem_cons_zero, List.getElem_cons_succ, List.setIfInBounds_toArray, List.set_cons_zero, List.set_cons_succ])
    refine wpAnyH_take (i := 43) (v := ?_) rfl (by kernel_rfl) (by kernel_rfl) (by kernel_rfl) (fun _ _ _ h => h) (Or.inl ⟨by rfl, ?_⟩) (by assumption) ?_
    rotate_left
    · intro w hSw; (try dsimp only at hSw); go_simp; (try with_reducible rfl)
    (try simp only [Act.put, List.getElem_toArray, List.getElem_cons_zero, List.getElem_cons_succ, List.setIfInBounds_toArray, List.set_cons_zero, List.set_cons_succ])
    refine wpAnyH_take (i := 44) (v := ?_) rfl (by kernel_rfl) (by kernel_rfl) (by kernel_rfl) (fun _ _ _ h => h) (Or.inl ⟨by rfl, ?_⟩) (by assumption) ?_
    rotate_left
    · intro w hSw; (try dsimp only at hSw); go_simp; (try with_reducible rfl)
    (try simp only [Act.put, List.getElem_toArray, List.getElem_cons_zero, List.getElem_cons_succ, List.setIfInBounds_toArray, List.set_cons_zero, List.set_cons_succ])
    refine wpAnyH_take (i := 45) (v := ?_) rfl (by kernel_rfl) (by kernel_rfl) (by kernel_rfl) (fun _ _ _ h => h) (Or.inl ⟨by rfl, ?_⟩) (by assumption) ?_
    rotate_left
    · intro w hSw; (try dsimp only at hSw); go_simp; (try with_reducible rfl)
    (try simp only [Act.put, List.getElem_toArray, List.getElem_cons_zero, List.getElem_cons_succ, List.setIfInBounds_toArray, List.set_cons_zero, List.set_cons_succ])
    refine wpAnyH_take (i := 46) (v := ?_) rfl (by kernel_rfl) (by kernel_rfl) (by kernel_rfl) (fun _ _ _ h => h) (Or.inl ⟨by rfl, ?_⟩) (by assumption) ?_
    rotate_left
    · intro w hSw; (try dsimp only at hSw); go_simp; (try with_reducible rfl)
    (try simp only [Act.put, List.getElem_toArray, List.getElem_cons_zero, List.getElem_cons_succ, List.setIfInBounds_toArray, List.set_cons_zero, List.set_cons_succ])
    refine wpAnyH_take (i := 47) (v := ?_) rfl (by kernel_rfl) (by kernel_rfl) (by kernel_rfl) (fun _ _ _ h => h) (Or.inl ⟨by rfl, ?_⟩) (by assumption) ?_
    rotate_left
    · intro w hSw; (try dsimp only at hSw); go_simp; (try with_reducible rfl)
    (try simp only [Act.put, List.getElem_toArray, List.getElem_cons_zero, List.getElem_cons_succ, List.setIfInBounds_toArray, List.set_cons_zero, List.set_cons_succ])
    refine wpAnyH_done (by kernel_rfl) ?_ _
    refine NoPanic.normal ?_
    obtain ⟨w31, hw31⟩ : ∃ v, w30 = v := ⟨_, rfl⟩
    subst hw31
    clear zbB zbC ebB0 ebB1 ebB2 ebC0 ebC1 ebC2 hQB
    clear hcx hcy OB OX OP OC OCr
    clear bB bC
    go_wp2_with fail
    refine (drawDoesMeet_any A n c w.heap.size _ R HB.size hn).mono ?_
    rintro e w41 ⟨X0, X1, A7, c7, qs, A8, c8, ys, rfl, hsm, hcl, own, own2, hb⟩
    replace R := R.all hb HB.size
    have OQ := own.mono HB.size
    have OY := own2.mono HB.size
    clear own own2
    replace HB := HB.trans (hb.mono HB.size)
    clear hb
    replace OQ := OQ.alloc (.cells #[.int .i64 X0, .int .i64 X1, .slice A7 qs.length c7] 26)
    replace OY := OY.alloc (.cells #[.int .i64 X0, .int .i64 X1, .slice A7 qs.length c7] 26)
    replace R := R.alloc HB.size (.cells #[.int .i64 X0, .int .i64 X1, .slice A7 qs.length c7] 26)
    have bX := Blk.new w41 #[.int .i64 X0, .int .i64 X1, .slice A7 qs.length c7] 26
    replace HB := HB.alloc HB.size (.cells #[.int .i64 X0, .int .i64 X1, .slice A7 qs.length c7] 26)
    obtain ⟨mv, hmv⟩ : ∃ vv, meetV X0 X1 qs ys = vv := ⟨_, rfl⟩
    obtain ⟨mo, hmo⟩ : ∃ vv, meetOk X0 X1 qs ys = vv := ⟨_, rfl⟩
    have hMi : Hid (∀ (w : World) (A : Option Addr) (c : Nat) (A' : Option Addr) (c' : Nat), Rd w w.heap.size A qs.length c qs → Rd w w.heap.size A' ys.length c' ys → Calls Try.prog 10 #[chartV X0 X1 (.slice A qs.length c), .slice A' ys.length c'] w (Out w (.tuple #[.bool mv, .bool mo]))) := Lib.hid fun w A c A' c' h h' => (by have := implDoesMeet_any X0 X1 A _ c _ qs A' _ c' _ ys w h h' (Nat.le_refl _) (Nat.le_refl _); rw [hmv, hmo] at this; exact this)
    have hMs : Hid (∀ (w : World) (A : Option Addr) (c : Nat) (A' : Option Addr) (c' : Nat), Rd w w.heap.size A qs.length c qs → Rd w w.heap.size A' ys.length c' ys → Calls Try.prog 14 #[chartV X0 X1 (.slice A qs.length c), .slice A' ys.length c'] w (Out w (.tuple #[.bool mv, .bool mo]))) := Lib.hid fun w A c A' c' h h' => (by have := specDoesMeet_any X0 X1 A _ c _ qs A' _ c' _ ys w h h' (Nat.le_refl _) (Nat.le_refl _); rw [hmv, hmo] at this; exact this)
    have HMF : Hid (mo = true → ∃ N : Nat, 1 ≤ ys.length ∧ ys.length ≤ 8 ∧ N ≤ 28 ∧ mv = decide (N % ys.length = 0) ∧ ∀ w : World, Calls Try.prog 15 #[.int .i64 X0, .int .i64 X1] w (Out w (.tuple #[.int .i64 (N : Int), .bool true]))) := Lib.hid fun hh => by
      obtain ⟨N, f0, f1, f2, f3, f4, f5⟩ := meet_facts (hmo.trans hh)
      rw [hmv] at f5
      refine ⟨N, f2, f3, f4, f5, fun w => ?_⟩
      have := implRingLength_any X0 X1 w
      rw [f0, f1] at this
      exact this
    clear hmv hmo hsm hcl
    have ebX0 := bX.cell 0
    have ebX1 := bX.cell 1
    have ebX2 := bX.cell 2
    have zbX := bX.lt
    go_wp2_with fail
    refine (hMi.out _ _ _ _ _ OQ.rd OY.rd).mono ?_
    rintro e w42 ⟨rfl, hb⟩
    clear ebX0 ebX1 ebX2 zbX
    replace OQ := OQ.all hb
    replace OY := OY.all hb
    replace bX := bX.all hb
    replace R := R.all hb HB.size
    replace HB := HB.trans (hb.mono HB.size)
    clear hb
    have ebX0 := bX.cell 0
    have ebX1 := bX.cell 1
    have ebX2 := bX.cell 2
    have zbX := bX.lt
    go_wp2_with fail
    refine (hMs.out _ _ _ _ _ OQ.rd OY.rd).mono ?_
    rintro e w43 ⟨rfl, hb⟩
    clear ebX0 ebX1 ebX2 zbX
    replace OQ := OQ.all hb
    replace OY := OY.all hb
    replace bX := bX.all hb
    replace R := R.all hb HB.size
    replace HB := HB.trans (hb.mono HB.size)
    clear hb
    clear hMi hMs
    clear OQ OY
    cases mo
    case false =>
      clear HMF
      clear bX
      go_wp2_with fail
      refine (drawStripBorder_any A n c w.heap.size _ R HB.size hn).mono ?_
      rintro e w44 ⟨Z0, Z1, A13, c13, zs, rfl, hsm, own, hb⟩
      replace R := R.all hb HB.size
      have OZ := own.mono HB.size
      clear own
      replace HB := HB.trans (hb.mono HB.size)
      clear hb
      replace OZ := OZ.alloc (.cells #[.int .i64 Z0, .int .i64 Z1, .slice A13 zs.length c13] 26)
      replace R := R.alloc HB.size (.cells #[.int .i64 Z0, .int .i64 Z1, .slice A13 zs.length c13] 26)
      have bZ := Blk.new w44 #[.int .i64 Z0, .int .i64 Z1, .slice A13 zs.length c13] 26
      replace HB := HB.alloc HB.size (.cells #[.int .i64 Z0, .int .i64 Z1, .slice A13 zs.length c13] 26)
      obtain ⟨t0, ht0⟩ : ∃ vv, orZero (stripOk Z0 Z1 zs) (Z0 - 2) = vv := ⟨_, rfl⟩
      obtain ⟨t1, ht1⟩ : ∃ vv, orZero (stripOk Z0 Z1 zs) (Z1 - 2) = vv := ⟨_, rfl⟩
      obtain ⟨ts, hts⟩ : ∃ vv, stripX Z0 Z1 zs = vv := ⟨_, rfl⟩
      obtain ⟨tb, htb⟩ : ∃ vv, stripOk Z0 Z1 zs = vv := ⟨_, rfl⟩
      have hSi : Hid (∀ (w : World) (A : Option Addr) (c : Nat), Rd w w.heap.size A zs.length c zs → Calls Try.prog 9 #[chartV Z0 Z1 (.slice A zs.length c)] w (OutChart w t0 t1 ts tb)) := Lib.hid fun w A c h => (by have := implStripBorder_any Z0 Z1 A _ c _ zs w h (Nat.le_refl _); rw [ht0, ht1, hts, htb] at this; exact this)
      have hSs : Hid (∀ (w : World) (A : Option Addr) (c : Nat), Rd w w.heap.size A zs.length c zs → Calls Try.prog 17 #[chartV Z0 Z1 (.slice A zs.length c)] w (OutChart w t0 t1 ts tb)) := Lib.hid fun w A c h => (by have := specStripBorder_any Z0 Z1 A _ c _ zs w h (Nat.le_refl _); rw [ht0, ht1, hts, htb] at this; exact this)
      clear ht0 ht1 hts htb hsm
      have ebZ0 := bZ.cell 0
      have ebZ1 := bZ.cell 1
      have ebZ2 := bZ.cell 2
      have zbZ := bZ.lt
      go_wp2_with fail
      refine (hSi.out _ _ _ OZ.rd).mono ?_
      rintro e w45 ⟨A14, c14, rfl, own, hb⟩
      clear ebZ0 ebZ1 ebZ2 zbZ
      replace OZ := OZ.all hb
      replace bZ := bZ.all hb
      replace R := R.all hb HB.size
      have OS1 := own.mono HB.size
      clear own
      replace HB := HB.trans (hb.mono HB.size)
      clear hb
      replace OZ := OZ.alloc (.cells #[.int .i64 t0, .int .i64 t1, .slice A14 ts.length c14] 26)
      replace OS1 := OS1.alloc (.cells #[.int .i64 t0, .int .i64 t1, .slice A14 ts.length c14] 26)
      replace bZ := bZ.alloc (.cells #[.int .i64 t0, .int .i64 t1, .slice A14 ts.length c14] 26)
      replace R := R.alloc HB.size (.cells #[.int .i64 t0, .int .i64 t1, .slice A14 ts.length c14] 26)
      have bS1 := Blk.new w45 #[.int .i64 t0, .int .i64 t1, .slice A14 ts.length c14] 26
      replace HB := HB.alloc HB.size (.cells #[.int .i64 t0, .int .i64 t1, .slice A14 ts.length c14] 26)
      have ebZ0 := bZ.cell 0
      have ebZ1 := bZ.cell 1
      have ebZ2 := bZ.cell 2
      have zbZ := bZ.lt
      have ebS10 := bS1.cell 0
      have ebS11 := bS1.cell 1
      have ebS12 := bS1.cell 2
      have zbS1 := bS1.lt
      go_wp2_with fail
      refine (hSs.out _ _ _ OZ.rd).mono ?_
      rintro e w46 ⟨A15, c15, rfl, own, hb⟩
      clear ebZ0 ebZ1 ebZ2 zbZ ebS10 ebS11 ebS12 zbS1
      replace OZ := OZ.all hb
      replace OS1 := OS1.all hb
      replace bZ := bZ.all hb
      replace bS1 := bS1.all hb
      replace R := R.all hb HB.size
      have OS2 := own.mono HB.size
      clear own
      replace HB := HB.trans (hb.mono HB.size)
      clear hb
      replace OZ := OZ.alloc (.cells #[.int .i64 t0, .int .i64 t1, .slice A15 ts.length c15] 26)
      replace OS1 := OS1.alloc (.cells #[.int .i64 t0, .int .i64 t1, .slice A15 ts.length c15] 26)
      replace OS2 := OS2.alloc (.cells #[.int .i64 t0, .int .i64 t1, .slice A15 ts.length c15] 26)
      replace bZ := bZ.alloc (.cells #[.int .i64 t0, .int .i64 t1, .slice A15 ts.length c15] 26)
      replace bS1 := bS1.alloc (.cells #[.int .i64 t0, .int .i64 t1, .slice A15 ts.length c15] 26)
      replace R := R.alloc HB.size (.cells #[.int .i64 t0, .int .i64 t1, .slice A15 ts.length c15] 26)
      have bS2 := Blk.new w46 #[.int .i64 t0, .int .i64 t1, .slice A15 ts.length c15] 26
      replace HB := HB.alloc HB.size (.cells #[.int .i64 t0, .int .i64 t1, .slice A15 ts.length c15] 26)
      clear hSi hSs
      have ebZ0 := bZ.cell 0
      have ebZ1 := bZ.cell 1
      have ebZ2 := bZ.cell 2
      have zbZ := bZ.lt
      have ebS10 := bS1.cell 0
      have ebS11 := bS1.cell 1
      have ebS12 := bS1.cell 2
      have zbS1 := bS1.lt
      have ebS20 := bS2.cell 0
      have ebS21 := bS2.cell 1
      have ebS22 := bS2.cell 2
      have zbS2 := bS2.lt
      go_wp2_with fail
      refine (vChart_same t0 t1 _ _ _ _ _ _ _ _ ts _ OS1.rd OS2.rd (Nat.le_refl _) (Nat.le_refl _)).mono ?_
      rintro e w47 ⟨rfl, hb⟩
      clear ebZ0 ebZ1 ebZ2 zbZ ebS10 ebS11 ebS12 zbS1 ebS20 ebS21 ebS22 zbS2
      replace OZ := OZ.all hb
      replace OS1 := OS1.all hb
      replace OS2 := OS2.all hb
      replace bZ := bZ.all hb
      replace bS1 := bS1.all hb
      replace bS2 := bS2.all hb
      replace R := R.all hb HB.size
      replace HB := HB.trans (hb.mono HB.size)
      clear hb
      clear OZ bZ OS1 OS2 bS1 bS2
      go_wp2_with fail
      refine (drawNearestMeeting_any A n c w.heap.size _ R HB.size hn).mono ?_
      rintro e w48 ⟨n0, n1, n2, rfl, hn0, hn1, hn2, hb⟩
      replace R := R.all hb HB.size
      replace HB := HB.trans (hb.mono HB.size)
      clear hb
      obtain ⟨e0, he0⟩ : ∃ vv, encA (nearF n0 n1 n2) = vv := ⟨_, rfl⟩
      obtain ⟨e1, he1⟩ : ∃ vv, encB (nearF n0 n1 n2) = vv := ⟨_, rfl⟩
      obtain ⟨e2, he2⟩ : ∃ vv, (nearF n0 n1 n2).isSome = vv := ⟨_, rfl⟩
      have hNi : Hid (∀ w : World, Calls Try.prog 19 #[.int .i64 n0, .int .i64 n1, .int .i64 n2] w (Out w (.tuple #[.int .i64 e0, .int .i64 e1, .bool e2]))) := Lib.hid fun w => (by have := implNearestMeeting_any n0 n1 n2 w; rw [he0, he1, he2] at this; exact this)
      have hNs : Hid (∀ w : World, Calls Try.prog 20 #[.int .i64 n0, .int .i64 n1, .int .i64 n2] w (Out w (.tuple #[.int .i64 e0, .int .i64 e1, .bool e2]))) := Lib.hid fun w => (by have := specNearestMeeting_any n0 n1 n2 w; rw [he0, he1, he2] at this; exact this)
      have HNR : Hid (e2 = true → ∃ a b N l : Nat, e0 = (a : Int) ∧ e1 = (b : Int) ∧ n2 = (l : Int) ∧ 1 ≤ l ∧ l ≤ 8 ∧ N ≤ 28 ∧ N % l = 0 ∧ ∀ w : World, Calls Try.prog 15 #[.int .i64 e0, .int .i64 e1] w (Out w (.tuple #[.int .i64 (N : Int), .bool true]))) := Lib.hid fun hh => by
        obtain ⟨a, b, N, l, f0, f1, f2, f3, f4, f5, f6, f7, f8, _, _⟩ := near_facts (he2.trans hh)
        rw [he0] at f0
        rw [he1] at f1
        refine ⟨a, b, N, l, f0, f1, f2, f3, f4, f7, f8, fun w => ?_⟩
        have := implRingLength_any a b w
        rw [f5, f6] at this
        rw [f0, f1]
        exact this
      clear he0 he1 he2 hn0 hn1 hn2
      go_wp2_with fail
      refine (hNi.out _).mono ?_
      rintro e w49 ⟨rfl, hb⟩
      replace R := R.all hb HB.size
      replace HB := HB.trans (hb.mono HB.size)
      clear hb
      go_wp2_with fail
      refine (hNs.out _).mono ?_
      rintro e w50 ⟨rfl, hb⟩
      replace R := R.all hb HB.size
      replace HB := HB.trans (hb.mono HB.size)
      clear hb
      clear hNi hNs
      cases e2
      case false =>
        clear HNR
        go_wp2
        go_ret
        exact ⟨ret_bool (by simp), HB⟩
      case true =>
        obtain ⟨a, b, N, l, f0, f1, rfl, f3, f4, f7, f8, hcl⟩ := HNR.out rfl
        have HCL := Lib.hid hcl
        clear HNR hcl f0 f1
        have hrem : Int.tmod (N : Int) (l : Int) = 0 := by rw [Int.tmod_eq_emod_of_nonneg (by omega)]; omega
        have hl0 : ((l : Int) == 0) = false := by simp; omega
        have hl0' : ¬ (l : Int) = 0 := by omega
        go_wp2_with fail
        refine (HCL.out _).mono ?_
        rintro e w51 ⟨rfl, hb⟩
        replace R := R.all hb HB.size
        replace HB := HB.trans (hb.mono HB.size)
        clear hb
        go_wp2
        go_ret
        exact ⟨ret_bool (by simp), HB⟩
    case true =>
      obtain ⟨N, g1, g2, g3, g4, hcl⟩ := HMF.out rfl
      have HCL := Lib.hid hcl
      clear HMF hcl
      obtain ⟨d, hd⟩ : ∃ d, ys.length = d := ⟨_, rfl⟩
      rw [hd] at g1 g2 g4
      subst g4
      have ebX0 := bX.cell 0
      have ebX1 := bX.cell 1
      have ebX2 := bX.cell 2
      have zbX := bX.lt
      go_wp2_with fail
      refine (HCL.out _).mono ?_
      rintro e w44 ⟨rfl, hb⟩
      clear ebX0 ebX1 ebX2 zbX
      replace bX := bX.all hb
      replace R := R.all hb HB.size
      replace HB := HB.trans (hb.mono HB.size)
      clear hb
      clear HCL
      have hd0 : ((d : Int) == 0) = false := by simp; omega
      have hd0' : ¬ (d : Int) = 0 := by omega
      clear bX
      by_cases hm : N % d = 0
      · have hrem : Int.tmod (N : Int) (d : Int) = 0 := by rw [Int.tmod_eq_emod_of_nonneg (by omega)]; omega
        have hdec : decide (N % d = 0) = true := decide_eq_true hm
        go_wp2_with fail
        refine (drawStripBorder_any A n c w.heap.size _ R HB.size hn).mono ?_
        rintro e w45 ⟨Z0, Z1, A13, c13, zs, rfl, hsm, own, hb⟩
        replace R := R.all hb HB.size
        have OZ := own.mono HB.size
        clear own
        replace HB := HB.trans (hb.mono HB.size)
        clear hb
        replace OZ := OZ.alloc (.cells #[.int .i64 Z0, .int .i64 Z1, .slice A13 zs.length c13] 26)
        replace R := R.alloc HB.size (.cells #[.int .i64 Z0, .int .i64 Z1, .slice A13 zs.length c13] 26)
        have bZ := Blk.new w45 #[.int .i64 Z0, .int .i64 Z1, .slice A13 zs.length c13] 26
        replace HB := HB.alloc HB.size (.cells #[.int .i64 Z0, .int .i64 Z1, .slice A13 zs.length c13] 26)
        obtain ⟨t0, ht0⟩ : ∃ vv, orZero (stripOk Z0 Z1 zs) (Z0 - 2) = vv := ⟨_, rfl⟩
        obtain ⟨t1, ht1⟩ : ∃ vv, orZero (stripOk Z0 Z1 zs) (Z1 - 2) = vv := ⟨_, rfl⟩
        obtain ⟨ts, hts⟩ : ∃ vv, stripX Z0 Z1 zs = vv := ⟨_, rfl⟩
        obtain ⟨tb, htb⟩ : ∃ vv, stripOk Z0 Z1 zs = vv := ⟨_, rfl⟩
        have hSi : Hid (∀ (w : World) (A : Option Addr) (c : Nat), Rd w w.heap.size A zs.length c zs → Calls Try.prog 9 #[chartV Z0 Z1 (.slice A zs.length c)] w (OutChart w t0 t1 ts tb)) := Lib.hid fun w A c h => (by have := implStripBorder_any Z0 Z1 A _ c _ zs w h (Nat.le_refl _); rw [ht0, ht1, hts, htb] at this; exact this)
        have hSs : Hid (∀ (w : World) (A : Option Addr) (c : Nat), Rd w w.heap.size A zs.length c zs → Calls Try.prog 17 #[chartV Z0 Z1 (.slice A zs.length c)] w (OutChart w t0 t1 ts tb)) := Lib.hid fun w A c h => (by have := specStripBorder_any Z0 Z1 A _ c _ zs w h (Nat.le_refl _); rw [ht0, ht1, hts, htb] at this; exact this)
        clear ht0 ht1 hts htb hsm
        have ebZ0 := bZ.cell 0
        have ebZ1 := bZ.cell 1
        have ebZ2 := bZ.cell 2
        have zbZ := bZ.lt
        go_wp2_with fail
        refine (hSi.out _ _ _ OZ.rd).mono ?_
        rintro e w46 ⟨A14, c14, rfl, own, hb⟩
        clear ebZ0 ebZ1 ebZ2 zbZ
        replace OZ := OZ.all hb
        replace bZ := bZ.all hb
        replace R := R.all hb HB.size
        have OS1 := own.mono HB.size
        clear own
        replace HB := HB.trans (hb.mono HB.size)
        clear hb
        replace OZ := OZ.alloc (.cells #[.int .i64 t0, .int .i64 t1, .slice A14 ts.length c14] 26)
        replace OS1 := OS1.alloc (.cells #[.int .i64 t0, .int .i64 t1, .slice A14 ts.length c14] 26)
        replace bZ := bZ.alloc (.cells #[.int .i64 t0, .int .i64 t1, .slice A14 ts.length c14] 26)
        replace R := R.alloc HB.size (.cells #[.int .i64 t0, .int .i64 t1, .slice A14 ts.length c14] 26)
        have bS1 := Blk.new w46 #[.int .i64 t0, .int .i64 t1, .slice A14 ts.length c14] 26
        replace HB := HB.alloc HB.size (.cells #[.int .i64 t0, .int .i64 t1, .slice A14 ts.length c14] 26)
        have ebZ0 := bZ.cell 0
        have ebZ1 := bZ.cell 1
        have ebZ2 := bZ.cell 2
        have zbZ := bZ.lt
        have ebS10 := bS1.cell 0
        have ebS11 := bS1.cell 1
        have ebS12 := bS1.cell 2
        have zbS1 := bS1.lt
        go_wp2_with fail
        refine (hSs.out _ _ _ OZ.rd).mono ?_
        rintro e w47 ⟨A15, c15, rfl, own, hb⟩
        clear ebZ0 ebZ1 ebZ2 zbZ ebS10 ebS11 ebS12 zbS1
        replace OZ := OZ.all hb
        replace OS1 := OS1.all hb
        replace bZ := bZ.all hb
        replace bS1 := bS1.all hb
        replace R := R.all hb HB.size
        have OS2 := own.mono HB.size
        clear own
        replace HB := HB.trans (hb.mono HB.size)
        clear hb
        replace OZ := OZ.alloc (.cells #[.int .i64 t0, .int .i64 t1, .slice A15 ts.length c15] 26)
        replace OS1 := OS1.alloc (.cells #[.int .i64 t0, .int .i64 t1, .slice A15 ts.length c15] 26)
        replace OS2 := OS2.alloc (.cells #[.int .i64 t0, .int .i64 t1, .slice A15 ts.length c15] 26)
        replace bZ := bZ.alloc (.cells #[.int .i64 t0, .int .i64 t1, .slice A15 ts.length c15] 26)
        replace bS1 := bS1.alloc (.cells #[.int .i64 t0, .int .i64 t1, .slice A15 ts.length c15] 26)
        replace R := R.alloc HB.size (.cells #[.int .i64 t0, .int .i64 t1, .slice A15 ts.length c15] 26)
        have bS2 := Blk.new w47 #[.int .i64 t0, .int .i64 t1, .slice A15 ts.length c15] 26
        replace HB := HB.alloc HB.size (.cells #[.int .i64 t0, .int .i64 t1, .slice A15 ts.length c15] 26)
        clear hSi hSs
        have ebZ0 := bZ.cell 0
        have ebZ1 := bZ.cell 1
        have ebZ2 := bZ.cell 2
        have zbZ := bZ.lt
        have ebS10 := bS1.cell 0
        have ebS11 := bS1.cell 1
        have ebS12 := bS1.cell 2
        have zbS1 := bS1.lt
        have ebS20 := bS2.cell 0
        have ebS21 := bS2.cell 1
        have ebS22 := bS2.cell 2
        have zbS2 := bS2.lt
        go_wp2_with fail
        refine (vChart_same t0 t1 _ _ _ _ _ _ _ _ ts _ OS1.rd OS2.rd (Nat.le_refl _) (Nat.le_refl _)).mono ?_
        rintro e w48 ⟨rfl, hb⟩
        clear ebZ0 ebZ1 ebZ2 zbZ ebS10 ebS11 ebS12 zbS1 ebS20 ebS21 ebS22 zbS2
        replace OZ := OZ.all hb
        replace OS1 := OS1.all hb
        replace OS2 := OS2.all hb
        replace bZ := bZ.all hb
        replace bS1 := bS1.all hb
        replace bS2 := bS2.all hb
        replace R := R.all hb HB.size
        replace HB := HB.trans (hb.mono HB.size)
        clear hb
        clear OZ bZ OS1 OS2 bS1 bS2
        go_wp2_with fail
        refine (drawNearestMeeting_any A n c w.heap.size _ R HB.size hn).mono ?_
        rintro e w49 ⟨n0, n1, n2, rfl, hn0, hn1, hn2, hb⟩
        replace R := R.all hb HB.size
        replace HB := HB.trans (hb.mono HB.size)
        clear hb
        obtain ⟨e0, he0⟩ : ∃ vv, encA (nearF n0 n1 n2) = vv := ⟨_, rfl⟩
        obtain ⟨e1, he1⟩ : ∃ vv, encB (nearF n0 n1 n2) = vv := ⟨_, rfl⟩
        obtain ⟨e2, he2⟩ : ∃ vv, (nearF n0 n1 n2).isSome = vv := ⟨_, rfl⟩
        have hNi : Hid (∀ w : World, Calls Try.prog 19 #[.int .i64 n0, .int .i64 n1, .int .i64 n2] w (Out w (.tuple #[.int .i64 e0, .int .i64 e1, .bool e2]))) := Lib.hid fun w => (by have := implNearestMeeting_any n0 n1 n2 w; rw [he0, he1, he2] at this; exact this)
        have hNs : Hid (∀ w : World, Calls Try.prog 20 #[.int .i64 n0, .int .i64 n1, .int .i64 n2] w (Out w (.tuple #[.int .i64 e0, .int .i64 e1, .bool e2]))) := Lib.hid fun w => (by have := specNearestMeeting_any n0 n1 n2 w; rw [he0, he1, he2] at this; exact this)
        have HNR : Hid (e2 = true → ∃ a b N l : Nat, e0 = (a : Int) ∧ e1 = (b : Int) ∧ n2 = (l : Int) ∧ 1 ≤ l ∧ l ≤ 8 ∧ N ≤ 28 ∧ N % l = 0 ∧ ∀ w : World, Calls Try.prog 15 #[.int .i64 e0, .int .i64 e1] w (Out w (.tuple #[.int .i64 (N : Int), .bool true]))) := Lib.hid fun hh => by
          obtain ⟨a, b, N, l, f0, f1, f2, f3, f4, f5, f6, f7, f8, _, _⟩ := near_facts (he2.trans hh)
          rw [he0] at f0
          rw [he1] at f1
          refine ⟨a, b, N, l, f0, f1, f2, f3, f4, f7, f8, fun w => ?_⟩
          have := implRingLength_any a b w
          rw [f5, f6] at this
          rw [f0, f1]
          exact this
        clear he0 he1 he2 hn0 hn1 hn2
        go_wp2_with fail
        refine (hNi.out _).mono ?_
        rintro e w50 ⟨rfl, hb⟩
        replace R := R.all hb HB.size
        replace HB := HB.trans (hb.mono HB.size)
        clear hb
        go_wp2_with fail
        refine (hNs.out _).mono ?_
        rintro e w51 ⟨rfl, hb⟩
        replace R := R.all hb HB.size
        replace HB := HB.trans (hb.mono HB.size)
        clear hb
        clear hNi hNs
        cases e2
        case false =>
          clear HNR
          go_wp2
          go_ret
          exact ⟨ret_bool (by simp), HB⟩
        case true =>
          obtain ⟨a, b, N, l, f0, f1, rfl, f3, f4, f7, f8, hcl⟩ := HNR.out rfl
          have HCL := Lib.hid hcl
          clear HNR hcl f0 f1
          have hrem : Int.tmod (N : Int) (l : Int) = 0 := by rw [Int.tmod_eq_emod_of_nonneg (by omega)]; omega
          have hl0 : ((l : Int) == 0) = false := by simp; omega
          have hl0' : ¬ (l : Int) = 0 := by omega
          go_wp2_with fail
          refine (HCL.out _).mono ?_
          rintro e w52 ⟨rfl, hb⟩
          replace R := R.all hb HB.size
          replace HB := HB.trans (hb.mono HB.size)
          clear hb
          go_wp2
          go_ret
          exact ⟨ret_bool (by simp), HB⟩
      · obtain ⟨r, hr⟩ : ∃ r : Nat, N % d = r := ⟨_, rfl⟩
        have hrem : Int.tmod (N : Int) (d : Int) = (r : Int) := by rw [Int.tmod_eq_emod_of_nonneg (by omega), ← hr]; omega
        have hr0 : ((r : Int) == 0) = false := by simp; omega
        have hr0' : ¬ (r : Int) = 0 := by omega
        have hdec : decide (N % d = 0) = false := decide_eq_false hm
        go_wp2_with fail
        refine (drawStripBorder_any A n c w.heap.size _ R HB.size hn).mono ?_
        rintro e w45 ⟨Z0, Z1, A13, c13, zs, rfl, hsm, own, hb⟩
        replace R := R.all hb HB.size
        have OZ := own.mono HB.size
        clear own
        replace HB := HB.trans (hb.mono HB.size)
        clear hb
        replace OZ := OZ.alloc (.cells #[.int .i64 Z0, .int .i64 Z1, .slice A13 zs.length c13] 26)
        replace R := R.alloc HB.size (.cells #[.int .i64 Z0, .int .i64 Z1, .slice A13 zs.length c13] 26)
        have bZ := Blk.new w45 #[.int .i64 Z0, .int .i64 Z1, .slice A13 zs.length c13] 26
        replace HB := HB.alloc HB.size (.cells #[.int .i64 Z0, .int .i64 Z1, .slice A13 zs.length c13] 26)
        obtain ⟨t0, ht0⟩ : ∃ vv, orZero (stripOk Z0 Z1 zs) (Z0 - 2) = vv := ⟨_, rfl⟩
        obtain ⟨t1, ht1⟩ : ∃ vv, orZero (stripOk Z0 Z1 zs) (Z1 - 2) = vv := ⟨_, rfl⟩
        obtain ⟨ts, hts⟩ : ∃ vv, stripX Z0 Z1 zs = vv := ⟨_, rfl⟩
        obtain ⟨tb, htb⟩ : ∃ vv, stripOk Z0 Z1 zs = vv := ⟨_, rfl⟩
        have hSi : Hid (∀ (w : World) (A : Option Addr) (c : Nat), Rd w w.heap.size A zs.length c zs → Calls Try.prog 9 #[chartV Z0 Z1 (.slice A zs.length c)] w (OutChart w t0 t1 ts tb)) := Lib.hid fun w A c h => (by have := implStripBorder_any Z0 Z1 A _ c _ zs w h (Nat.le_refl _); rw [ht0, ht1, hts, htb] at this; exact this)
        have hSs : Hid (∀ (w : World) (A : Option Addr) (c : Nat), Rd w w.heap.size A zs.length c zs → Calls Try.prog 17 #[chartV Z0 Z1 (.slice A zs.length c)] w (OutChart w t0 t1 ts tb)) := Lib.hid fun w A c h => (by have := specStripBorder_any Z0 Z1 A _ c _ zs w h (Nat.le_refl _); rw [ht0, ht1, hts, htb] at this; exact this)
        clear ht0 ht1 hts htb hsm
        have ebZ0 := bZ.cell 0
        have ebZ1 := bZ.cell 1
        have ebZ2 := bZ.cell 2
        have zbZ := bZ.lt
        go_wp2_with fail
        refine (hSi.out _ _ _ OZ.rd).mono ?_
        rintro e w46 ⟨A14, c14, rfl, own, hb⟩
        clear ebZ0 ebZ1 ebZ2 zbZ
        replace OZ := OZ.all hb
        replace bZ := bZ.all hb
        replace R := R.all hb HB.size
        have OS1 := own.mono HB.size
        clear own
        replace HB := HB.trans (hb.mono HB.size)
        clear hb
        replace OZ := OZ.alloc (.cells #[.int .i64 t0, .int .i64 t1, .slice A14 ts.length c14] 26)
        replace OS1 := OS1.alloc (.cells #[.int .i64 t0, .int .i64 t1, .slice A14 ts.length c14] 26)
        replace bZ := bZ.alloc (.cells #[.int .i64 t0, .int .i64 t1, .slice A14 ts.length c14] 26)
        replace R := R.alloc HB.size (.cells #[.int .i64 t0, .int .i64 t1, .slice A14 ts.length c14] 26)
        have bS1 := Blk.new w46 #[.int .i64 t0, .int .i64 t1, .slice A14 ts.length c14] 26
        replace HB := HB.alloc HB.size (.cells #[.int .i64 t0, .int .i64 t1, .slice A14 ts.length c14] 26)
        have ebZ0 := bZ.cell 0
        have ebZ1 := bZ.cell 1
        have ebZ2 := bZ.cell 2
        have zbZ := bZ.lt
        have ebS10 := bS1.cell 0
        have ebS11 := bS1.cell 1
        have ebS12 := bS1.cell 2
        have zbS1 := bS1.lt
        go_wp2_with fail
        refine (hSs.out _ _ _ OZ.rd).mono ?_
        rintro e w47 ⟨A15, c15, rfl, own, hb⟩
        clear ebZ0 ebZ1 ebZ2 zbZ ebS10 ebS11 ebS12 zbS1
        replace OZ := OZ.all hb
        replace OS1 := OS1.all hb
        replace bZ := bZ.all hb
        replace bS1 := bS1.all hb
        replace R := R.all hb HB.size
        have OS2 := own.mono HB.size
        clear own
        replace HB := HB.trans (hb.mono HB.size)
        clear hb
        replace OZ := OZ.alloc (.cells #[.int .i64 t0, .int .i64 t1, .slice A15 ts.length c15] 26)
        replace OS1 := OS1.alloc (.cells #[.int .i64 t0, .int .i64 t1, .slice A15 ts.length c15] 26)
        replace OS2 := OS2.alloc (.cells #[.int .i64 t0, .int .i64 t1, .slice A15 ts.length c15] 26)
        replace bZ := bZ.alloc (.cells #[.int .i64 t0, .int .i64 t1, .slice A15 ts.length c15] 26)
        replace bS1 := bS1.alloc (.cells #[.int .i64 t0, .int .i64 t1, .slice A15 ts.length c15] 26)
        replace R := R.alloc HB.size (.cells #[.int .i64 t0, .int .i64 t1, .slice A15 ts.length c15] 26)
        have bS2 := Blk.new w47 #[.int .i64 t0, .int .i64 t1, .slice A15 ts.length c15] 26
        replace HB := HB.alloc HB.size (.cells #[.int .i64 t0, .int .i64 t1, .slice A15 ts.length c15] 26)
        clear hSi hSs
        have ebZ0 := bZ.cell 0
        have ebZ1 := bZ.cell 1
        have ebZ2 := bZ.cell 2
        have zbZ := bZ.lt
        have ebS10 := bS1.cell 0
        have ebS11 := bS1.cell 1
        have ebS12 := bS1.cell 2
        have zbS1 := bS1.lt
        have ebS20 := bS2.cell 0
        have ebS21 := bS2.cell 1
        have ebS22 := bS2.cell 2
        have zbS2 := bS2.lt
        go_wp2_with fail
        refine (vChart_same t0 t1 _ _ _ _ _ _ _ _ ts _ OS1.rd OS2.rd (Nat.le_refl _) (Nat.le_refl _)).mono ?_
        rintro e w48 ⟨rfl, hb⟩
        clear ebZ0 ebZ1 ebZ2 zbZ ebS10 ebS11 ebS12 zbS1 ebS20 ebS21 ebS22 zbS2
        replace OZ := OZ.all hb
        replace OS1 := OS1.all hb
        replace OS2 := OS2.all hb
        replace bZ := bZ.all hb
        replace bS1 := bS1.all hb
        replace bS2 := bS2.all hb
        replace R := R.all hb HB.size
        replace HB := HB.trans (hb.mono HB.size)
        clear hb
        clear OZ bZ OS1 OS2 bS1 bS2
        go_wp2_with fail
        refine (drawNearestMeeting_any A n c w.heap.size _ R HB.size hn).mono ?_
        rintro e w49 ⟨n0, n1, n2, rfl, hn0, hn1, hn2, hb⟩
        replace R := R.all hb HB.size
        replace HB := HB.trans (hb.mono HB.size)
        clear hb
        obtain ⟨e0, he0⟩ : ∃ vv, encA (nearF n0 n1 n2) = vv := ⟨_, rfl⟩
        obtain ⟨e1, he1⟩ : ∃ vv, encB (nearF n0 n1 n2) = vv := ⟨_, rfl⟩
        obtain ⟨e2, he2⟩ : ∃ vv, (nearF n0 n1 n2).isSome = vv := ⟨_, rfl⟩
        have hNi : Hid (∀ w : World, Calls Try.prog 19 #[.int .i64 n0, .int .i64 n1, .int .i64 n2] w (Out w (.tuple #[.int .i64 e0, .int .i64 e1, .bool e2]))) := Lib.hid fun w => (by have := implNearestMeeting_any n0 n1 n2 w; rw [he0, he1, he2] at this; exact this)
        have hNs : Hid (∀ w : World, Calls Try.prog 20 #[.int .i64 n0, .int .i64 n1, .int .i64 n2] w (Out w (.tuple #[.int .i64 e0, .int .i64 e1, .bool e2]))) := Lib.hid fun w => (by have := specNearestMeeting_any n0 n1 n2 w; rw [he0, he1, he2] at this; exact this)
        have HNR : Hid (e2 = true → ∃ a b N l : Nat, e0 = (a : Int) ∧ e1 = (b : Int) ∧ n2 = (l : Int) ∧ 1 ≤ l ∧ l ≤ 8 ∧ N ≤ 28 ∧ N % l = 0 ∧ ∀ w : World, Calls Try.prog 15 #[.int .i64 e0, .int .i64 e1] w (Out w (.tuple #[.int .i64 (N : Int), .bool true]))) := Lib.hid fun hh => by
          obtain ⟨a, b, N, l, f0, f1, f2, f3, f4, f5, f6, f7, f8, _, _⟩ := near_facts (he2.trans hh)
          rw [he0] at f0
          rw [he1] at f1
          refine ⟨a, b, N, l, f0, f1, f2, f3, f4, f7, f8, fun w => ?_⟩
          have := implRingLength_any a b w
          rw [f5, f6] at this
          rw [f0, f1]
          exact this
        clear he0 he1 he2 hn0 hn1 hn2
        go_wp2_with fail
        refine (hNi.out _).mono ?_
        rintro e w50 ⟨rfl, hb⟩
        replace R := R.all hb HB.size
        replace HB := HB.trans (hb.mono HB.size)
        clear hb
        go_wp2_with fail
        refine (hNs.out _).mono ?_
        rintro e w51 ⟨rfl, hb⟩
        replace R := R.all hb HB.size
        replace HB := HB.trans (hb.mono HB.size)
        clear hb
        clear hNi hNs
        cases e2
        case false =>
          clear HNR
          go_wp2
          go_ret
          exact ⟨ret_bool (by simp), HB⟩
        case true =>
          obtain ⟨a, b, N, l, f0, f1, rfl, f3, f4, f7, f8, hcl⟩ := HNR.out rfl
          have HCL := Lib.hid hcl
          clear HNR hcl f0 f1
          have hrem : Int.tmod (N : Int) (l : Int) = 0 := by rw [Int.tmod_eq_emod_of_nonneg (by omega)]; omega
          have hl0 : ((l : Int) == 0) = false := by simp; omega
          have hl0' : ¬ (l : Int) = 0 := by omega
          go_wp2_with fail
          refine (HCL.out _).mono ?_
          rintro e w52 ⟨rfl, hb⟩
          replace R := R.all hb HB.size
          replace HB := HB.trans (hb.mono HB.size)
          clear hb
          go_wp2
          go_ret
          exact ⟨ret_bool (by simp), HB⟩
end Go.Proofs.Ytjfdcmdgpeeabaa
