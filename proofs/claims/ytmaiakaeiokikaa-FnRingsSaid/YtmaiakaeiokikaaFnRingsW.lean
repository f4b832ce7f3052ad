/- The walk of the law FnRings. No condition. -/
import Derived.Test.YtmaiakaeiokikaaDraws8
import Derived.Test.YtmaiakaeiokikaaDraws8C
import Derived.Test.YtmaiakaeiokikaaRingsFn2
import Derived.Test.YtmaiakaeiokikaaRing5
import Derived.Test.YtmaiakaeiokikaaRing6
import Derived.Test.YtmaiakaeiokikaaRing8
import Derived.BigQuiet
import Derived.IntWalk
namespace Go.Proofs.Ytmaiakaeiokikaa
open Go.RowKit

theorem vInts_low (A A' : Option Addr) (n c n' c' B B' : Nat) (xs : List Int) (w : World) (h : Rd w B A n c xs) (h' : Rd w B' A' n' c' xs) : Calls Try.prog 8 #[.slice A n c, .slice A' n' c'] w fun e w' => e = .returned (.bool true) ∧ Below w.heap.size w w' :=
  (vInts_same A A' n c n' c' B B' xs w h h').mono fun _ _ ⟨he, q, hq⟩ => ⟨he, hq ▸ low_drewN w q⟩
theorem drewN_2 (w : World) (a b : Nat) : (w.drewN a).drewN b = w.drewN (a + b) := by simp [World.drewN, Nat.add_assoc]
set_option maxRecDepth 100000 in
set_option maxHeartbeats 16000000 in
theorem fnRings_walk (w : World) (A : Option Addr) (n c : Nat) (R : RdB w w.heap.size A n c) : Calls Try.prog 3 #[.slice A n c] w fun e w' => e = .returned (.bool true) ∧ Below w.heap.size w w' := by
  have hcap := R.cap
  have hmax := R.max
  unfold maxLen at hmax
  have HB := Below.refl w.heap.size w
  by_cases hn : n ≤ 65536
  rotate_left
  · go_enter Try.func3, Try.ntmps3
    go_wp2_with fail
    refine (vBig_eq A n c _ (by omega) true (by simp; omega)).mono ?_
    rintro e w' ⟨rfl, rfl⟩
    go_wp2
    go_ret
    exact ⟨rfl, HB⟩
  go_enter Try.func3, Try.ntmps3
  go_wp2_with fail
  refine (vBig_eq A n c _ (by omega) false (by simp; omega)).mono ?_
  rintro e w' ⟨rfl, rfl⟩
  go_wp2_with fail
  refine (drawRingOf_any A n c w.heap.size _ R HB.size hn).mono ?_
  rintro e w1 ⟨W, H, A2, c2, xs, rfl, hsm, own, hb⟩
  replace R := R.all hb HB.size
  have OX := own.mono HB.size
  clear own
  replace HB := HB.trans (hb.mono HB.size)
  clear hb
  replace OX := OX.alloc (.cells #[.int .i64 W, .int .i64 H, .slice A2 xs.length c2] 26)
  replace R := R.alloc HB.size (.cells #[.int .i64 W, .int .i64 H, .slice A2 xs.length c2] 26)
  have bC := Blk.new w1 #[.int .i64 W, .int .i64 H, .slice A2 xs.length c2] 26
  replace HB := HB.alloc HB.size (.cells #[.int .i64 W, .int .i64 H, .slice A2 xs.length c2] 26)
  obtain ⟨rl, hrl⟩ : ∃ vv, ringX W H xs = vv := ⟨_, rfl⟩
  obtain ⟨ok, hok⟩ : ∃ vv, hasRingB W H xs = vv := ⟨_, rfl⟩
  have hRi : Hid (∀ (w : World) (A : Option Addr) (c : Nat), Rd w w.heap.size A xs.length c xs → Calls Try.prog 6 #[chartV W H (.slice A xs.length c)] w (OutInts w rl ok)) := Lib.hid fun w A c h => (by have := implRingOf_any W H A _ c _ xs w h (Nat.le_refl _); rw [hrl, hok] at this; exact this)
  have hRs : Hid (∀ (w : World) (A : Option Addr) (c : Nat), Rd w w.heap.size A xs.length c xs → Calls Try.prog 7 #[chartV W H (.slice A xs.length c)] w (OutInts w rl ok)) := Lib.hid fun w A c h => (by have := specRingOf_any W H A _ c _ xs w h (Nat.le_refl _); rw [hrl, hok] at this; exact this)
  have HF : Hid (ok = true → putOk8 W H xs rl = true ∧ putX8 W H xs rl = xs ∧ (ringSideB W && ringSideB H) = true ∧ ringLenV W H = (rl.length : Nat) ∧ ∃ p : Nat, perRV W H xs = (p : Int) ∧ 1 ≤ p ∧ p ≤ rl.length ∧ rl.length % p = 0 ∧ ∀ i, p ≤ i → i < rl.length → rl.getD i 0 = rl.getD (i - p) 0) := Lib.hid fun hh => by
    have := rings_facts (hok.trans hh)
    rw [hrl] at this
    exact this
  have HLEN : Hid (rl.length ≤ 28) := Lib.hid (by rw [← hrl]; exact ringX_len W H xs)
  have HOK := Lib.hid hok
  clear hrl hok hsm
  have ebC0 := bC.cell 0
  have ebC1 := bC.cell 1
  have ebC2 := bC.cell 2
  have zbC := bC.lt
  go_wp2_with fail
  refine (hRi.out _ _ _ OX.rd).mono ?_
  rintro e w2 ⟨A3, c3, rfl, own, hb⟩
  clear ebC0 ebC1 ebC2 zbC
  replace OX := OX.all hb
  replace bC := bC.all hb
  replace R := R.all hb HB.size
  have OR := own.mono HB.size
  clear own
  replace HB := HB.trans (hb.mono HB.size)
  clear hb
  have ebC0 := bC.cell 0
  have ebC1 := bC.cell 1
  have ebC2 := bC.cell 2
  have zbC := bC.lt
  go_wp2_with fail
  refine (hRs.out _ _ _ OX.rd).mono ?_
  rintro e w3 ⟨A4, c4, rfl, own, hb⟩
  clear ebC0 ebC1 ebC2 zbC
  replace OX := OX.all hb
  replace OR := OR.all hb
  replace bC := bC.all hb
  replace R := R.all hb HB.size
  have OS := own.mono HB.size
  clear own
  replace HB := HB.trans (hb.mono HB.size)
  clear hb
  clear hRi hRs
  have ebC0 := bC.cell 0
  have ebC1 := bC.cell 1
  have ebC2 := bC.cell 2
  have zbC := bC.lt
  go_wp2_with fail
  refine (vInts_low _ _ _ _ _ _ _ _ rl _ OR.rd OS.rd).mono ?_
  rintro e w4 ⟨rfl, hb⟩
  clear ebC0 ebC1 ebC2 zbC
  replace OX := OX.all hb
  replace OR := OR.all hb
  replace OS := OS.all hb
  replace bC := bC.all hb
  replace R := R.all hb HB.size
  replace HB := HB.trans (hb.mono HB.size)
  clear hb
  clear OS
  cases ok
  case false =>
    clear HF HOK HLEN
    clear OX bC OR
    go_wp2_with fail
    refine (drawPutRing_any A n c w.heap.size _ R HB.size hn).mono ?_
    rintro e w5 ⟨X0, X1, A7, c7, qs, A8, c8, cs, rfl, hsm, hcl, own, own2, hb⟩
    replace R := R.all hb HB.size
    have OQ := own.mono HB.size
    have OL := own2.mono HB.size
    clear own own2
    replace HB := HB.trans (hb.mono HB.size)
    clear hb
    replace OQ := OQ.alloc (.cells #[.int .i64 X0, .int .i64 X1, .slice A7 qs.length c7] 26)
    replace OL := OL.alloc (.cells #[.int .i64 X0, .int .i64 X1, .slice A7 qs.length c7] 26)
    replace R := R.alloc HB.size (.cells #[.int .i64 X0, .int .i64 X1, .slice A7 qs.length c7] 26)
    have bX := Blk.new w5 #[.int .i64 X0, .int .i64 X1, .slice A7 qs.length c7] 26
    replace HB := HB.alloc HB.size (.cells #[.int .i64 X0, .int .i64 X1, .slice A7 qs.length c7] 26)
    obtain ⟨pu, hpu⟩ : ∃ vv, putX8 X0 X1 qs cs = vv := ⟨_, rfl⟩
    obtain ⟨po, hpo⟩ : ∃ vv, putOk8 X0 X1 qs cs = vv := ⟨_, rfl⟩
    obtain ⟨u0, hu0⟩ : ∃ vv, orZero (putOk8 X0 X1 qs cs) X0 = vv := ⟨_, rfl⟩
    obtain ⟨u1, hu1⟩ : ∃ vv, orZero (putOk8 X0 X1 qs cs) X1 = vv := ⟨_, rfl⟩
    have hUi : Hid (∀ (w : World) (A : Option Addr) (c : Nat) (A' : Option Addr) (c' : Nat), Rd w w.heap.size A qs.length c qs → Rd w w.heap.size A' cs.length c' cs → Calls Try.prog 9 #[chartV X0 X1 (.slice A qs.length c), .slice A' cs.length c'] w (OutChart w u0 u1 pu po)) := Lib.hid fun w A c A' c' h h' => (by have := implPutRing_any X0 X1 A _ c _ qs A' _ c' _ cs w h h' (Nat.le_refl _) (Nat.le_refl _); rw [hu0, hu1, hpu, hpo] at this; exact this)
    have hUs : Hid (∀ (w : World) (A : Option Addr) (c : Nat) (A' : Option Addr) (c' : Nat), Rd w w.heap.size A qs.length c qs → Rd w w.heap.size A' cs.length c' cs → Calls Try.prog 14 #[chartV X0 X1 (.slice A qs.length c), .slice A' cs.length c'] w (OutChart w u0 u1 pu po)) := Lib.hid fun w A c A' c' h h' => (by have := specPutRing_any X0 X1 A _ c _ qs A' _ c' _ cs w h h' (Nat.le_refl _) (Nat.le_refl _); rw [hu0, hu1, hpu, hpo] at this; exact this)
    have HPF : Hid (po = true → ∀ (w : World) (A : Option Addr) (c : Nat), Rd w w.heap.size A pu.length c pu → Calls Try.prog 6 #[chartV u0 u1 (.slice A pu.length c)] w (OutInts w cs true)) := Lib.hid fun hh w A c h => by
      obtain ⟨f0, f1, f2, f3⟩ := put_facts (hpo.trans hh)
      rw [hu0] at f0
      rw [hu1] at f1
      rw [hpu] at f2 f3
      have := implRingOf_any X0 X1 A _ c _ pu w h (Nat.le_refl _)
      rw [f2, f3] at this
      rw [f0, f1]
      exact this
    clear hpu hpo hu0 hu1 hsm hcl
    have ebX0 := bX.cell 0
    have ebX1 := bX.cell 1
    have ebX2 := bX.cell 2
    have zbX := bX.lt
    go_wp2_with fail
    refine (hUi.out _ _ _ _ _ OQ.rd OL.rd).mono ?_
    rintro e w6 ⟨A9, c9, rfl, own, hb⟩
    clear ebX0 ebX1 ebX2 zbX
    replace OQ := OQ.all hb
    replace OL := OL.all hb
    replace bX := bX.all hb
    replace R := R.all hb HB.size
    have OP := own.mono HB.size
    clear own
    replace HB := HB.trans (hb.mono HB.size)
    clear hb
    replace OQ := OQ.alloc (.cells #[.int .i64 u0, .int .i64 u1, .slice A9 pu.length c9] 26)
    replace OL := OL.alloc (.cells #[.int .i64 u0, .int .i64 u1, .slice A9 pu.length c9] 26)
    replace OP := OP.alloc (.cells #[.int .i64 u0, .int .i64 u1, .slice A9 pu.length c9] 26)
    replace bX := bX.alloc (.cells #[.int .i64 u0, .int .i64 u1, .slice A9 pu.length c9] 26)
    replace R := R.alloc HB.size (.cells #[.int .i64 u0, .int .i64 u1, .slice A9 pu.length c9] 26)
    have bP := Blk.new w6 #[.int .i64 u0, .int .i64 u1, .slice A9 pu.length c9] 26
    replace HB := HB.alloc HB.size (.cells #[.int .i64 u0, .int .i64 u1, .slice A9 pu.length c9] 26)
    have ebX0 := bX.cell 0
    have ebX1 := bX.cell 1
    have ebX2 := bX.cell 2
    have zbX := bX.lt
    have ebP0 := bP.cell 0
    have ebP1 := bP.cell 1
    have ebP2 := bP.cell 2
    have zbP := bP.lt
    go_wp2_with fail
    refine (hUs.out _ _ _ _ _ OQ.rd OL.rd).mono ?_
    rintro e w7 ⟨A10, c10, rfl, own, hb⟩
    clear ebX0 ebX1 ebX2 zbX ebP0 ebP1 ebP2 zbP
    replace OQ := OQ.all hb
    replace OL := OL.all hb
    replace OP := OP.all hb
    replace bX := bX.all hb
    replace bP := bP.all hb
    replace R := R.all hb HB.size
    have OW := own.mono HB.size
    clear own
    replace HB := HB.trans (hb.mono HB.size)
    clear hb
    replace OQ := OQ.alloc (.cells #[.int .i64 u0, .int .i64 u1, .slice A10 pu.length c10] 26)
    replace OL := OL.alloc (.cells #[.int .i64 u0, .int .i64 u1, .slice A10 pu.length c10] 26)
    replace OP := OP.alloc (.cells #[.int .i64 u0, .int .i64 u1, .slice A10 pu.length c10] 26)
    replace OW := OW.alloc (.cells #[.int .i64 u0, .int .i64 u1, .slice A10 pu.length c10] 26)
    replace bX := bX.alloc (.cells #[.int .i64 u0, .int .i64 u1, .slice A10 pu.length c10] 26)
    replace bP := bP.alloc (.cells #[.int .i64 u0, .int .i64 u1, .slice A10 pu.length c10] 26)
    replace R := R.alloc HB.size (.cells #[.int .i64 u0, .int .i64 u1, .slice A10 pu.length c10] 26)
    have bW := Blk.new w7 #[.int .i64 u0, .int .i64 u1, .slice A10 pu.length c10] 26
    replace HB := HB.alloc HB.size (.cells #[.int .i64 u0, .int .i64 u1, .slice A10 pu.length c10] 26)
    clear hUi hUs
    have ebX0 := bX.cell 0
    have ebX1 := bX.cell 1
    have ebX2 := bX.cell 2
    have zbX := bX.lt
    have ebP0 := bP.cell 0
    have ebP1 := bP.cell 1
    have ebP2 := bP.cell 2
    have zbP := bP.lt
    have ebW0 := bW.cell 0
    have ebW1 := bW.cell 1
    have ebW2 := bW.cell 2
    have zbW := bW.lt
    go_wp2_with fail
    refine (vChart_same u0 u1 _ _ _ _ _ _ _ _ pu _ OP.rd OW.rd (Nat.le_refl _) (Nat.le_refl _)).mono ?_
    rintro e w8 ⟨rfl, hb⟩
    clear ebX0 ebX1 ebX2 zbX ebP0 ebP1 ebP2 zbP ebW0 ebW1 ebW2 zbW
    replace OQ := OQ.all hb
    replace OL := OL.all hb
    replace OP := OP.all hb
    replace OW := OW.all hb
    replace bX := bX.all hb
    replace bP := bP.all hb
    replace bW := bW.all hb
    replace R := R.all hb HB.size
    replace HB := HB.trans (hb.mono HB.size)
    clear hb
    clear OW bW OQ bX
    cases po
    case false =>
      clear HPF
      clear OP bP OL
      go_wp2_with fail
      refine (drawRingPeriod_any A n c w.heap.size _ R HB.size hn).mono ?_
      rintro e w9 ⟨Y0, Y1, A12, c12, ys, rfl, hsm, own, hb⟩
      replace R := R.all hb HB.size
      have OY := own.mono HB.size
      clear own
      replace HB := HB.trans (hb.mono HB.size)
      clear hb
      replace OY := OY.alloc (.cells #[.int .i64 Y0, .int .i64 Y1, .slice A12 ys.length c12] 26)
      replace R := R.alloc HB.size (.cells #[.int .i64 Y0, .int .i64 Y1, .slice A12 ys.length c12] 26)
      have bY := Blk.new w9 #[.int .i64 Y0, .int .i64 Y1, .slice A12 ys.length c12] 26
      replace HB := HB.alloc HB.size (.cells #[.int .i64 Y0, .int .i64 Y1, .slice A12 ys.length c12] 26)
      obtain ⟨pv, hpv⟩ : ∃ vv, perRV Y0 Y1 ys = vv := ⟨_, rfl⟩
      obtain ⟨pb, hpb⟩ : ∃ vv, hasRingB Y0 Y1 ys = vv := ⟨_, rfl⟩
      have hPi : Hid (∀ (w : World) (A : Option Addr) (c : Nat), Rd w w.heap.size A ys.length c ys → Calls Try.prog 11 #[chartV Y0 Y1 (.slice A ys.length c)] w (Out w (.tuple #[.int .i64 pv, .bool pb]))) := Lib.hid fun w A c h => (by have := implRingPeriod_any Y0 Y1 A _ c _ ys w h (Nat.le_refl _); rw [hpv, hpb] at this; exact this)
      have hPs : Hid (∀ (w : World) (A : Option Addr) (c : Nat), Rd w w.heap.size A ys.length c ys → Calls Try.prog 16 #[chartV Y0 Y1 (.slice A ys.length c)] w (Out w (.tuple #[.int .i64 pv, .bool pb]))) := Lib.hid fun w A c h => (by have := specRingPeriod_any Y0 Y1 A _ c _ ys w h (Nat.le_refl _); rw [hpv, hpb] at this; exact this)
      clear hpv hpb hsm
      have ebY0 := bY.cell 0
      have ebY1 := bY.cell 1
      have ebY2 := bY.cell 2
      have zbY := bY.lt
      go_wp2_with fail
      refine (hPi.out _ _ _ OY.rd).mono ?_
      rintro e w10 ⟨rfl, hb⟩
      clear ebY0 ebY1 ebY2 zbY
      replace OY := OY.all hb
      replace bY := bY.all hb
      replace R := R.all hb HB.size
      replace HB := HB.trans (hb.mono HB.size)
      clear hb
      have ebY0 := bY.cell 0
      have ebY1 := bY.cell 1
      have ebY2 := bY.cell 2
      have zbY := bY.lt
      go_wp2_with fail
      refine (hPs.out _ _ _ OY.rd).mono ?_
      rintro e w11 ⟨rfl, hb⟩
      clear ebY0 ebY1 ebY2 zbY
      replace OY := OY.all hb
      replace bY := bY.all hb
      replace R := R.all hb HB.size
      replace HB := HB.trans (hb.mono HB.size)
      clear hb
      clear hPi hPs
      clear OY bY
      go_wp2_with fail
      refine (drawCornersOf_any A n c w.heap.size _ R HB.size hn).mono ?_
      rintro e w12 ⟨Z0, Z1, A13, c13, zs, rfl, hsm, own, hb⟩
      replace R := R.all hb HB.size
      have OZ := own.mono HB.size
      clear own
      replace HB := HB.trans (hb.mono HB.size)
      clear hb
      replace OZ := OZ.alloc (.cells #[.int .i64 Z0, .int .i64 Z1, .slice A13 zs.length c13] 26)
      replace R := R.alloc HB.size (.cells #[.int .i64 Z0, .int .i64 Z1, .slice A13 zs.length c13] 26)
      have bZ := Blk.new w12 #[.int .i64 Z0, .int .i64 Z1, .slice A13 zs.length c13] 26
      replace HB := HB.alloc HB.size (.cells #[.int .i64 Z0, .int .i64 Z1, .slice A13 zs.length c13] 26)
      obtain ⟨cv, hcv⟩ : ∃ vv, cornersX Z0 Z1 zs = vv := ⟨_, rfl⟩
      obtain ⟨cb, hcb⟩ : ∃ vv, hasRingB Z0 Z1 zs = vv := ⟨_, rfl⟩
      have hCi : Hid (∀ (w : World) (A : Option Addr) (c : Nat), Rd w w.heap.size A zs.length c zs → Calls Try.prog 18 #[chartV Z0 Z1 (.slice A zs.length c)] w (OutInts w cv cb)) := Lib.hid fun w A c h => (by have := implCornersOf_any Z0 Z1 A _ c _ zs w h (Nat.le_refl _); rw [hcv, hcb] at this; exact this)
      have hCs : Hid (∀ (w : World) (A : Option Addr) (c : Nat), Rd w w.heap.size A zs.length c zs → Calls Try.prog 19 #[chartV Z0 Z1 (.slice A zs.length c)] w (OutInts w cv cb)) := Lib.hid fun w A c h => (by have := specCornersOf_any Z0 Z1 A _ c _ zs w h (Nat.le_refl _); rw [hcv, hcb] at this; exact this)
      clear hcv hcb hsm
      have ebZ0 := bZ.cell 0
      have ebZ1 := bZ.cell 1
      have ebZ2 := bZ.cell 2
      have zbZ := bZ.lt
      go_wp2_with fail
      refine (hCi.out _ _ _ OZ.rd).mono ?_
      rintro e w13 ⟨A14, c14, rfl, own, hb⟩
      clear ebZ0 ebZ1 ebZ2 zbZ
      replace OZ := OZ.all hb
      replace bZ := bZ.all hb
      replace R := R.all hb HB.size
      have OC1 := own.mono HB.size
      clear own
      replace HB := HB.trans (hb.mono HB.size)
      clear hb
      have ebZ0 := bZ.cell 0
      have ebZ1 := bZ.cell 1
      have ebZ2 := bZ.cell 2
      have zbZ := bZ.lt
      go_wp2_with fail
      refine (hCs.out _ _ _ OZ.rd).mono ?_
      rintro e w14 ⟨A15, c15, rfl, own, hb⟩
      clear ebZ0 ebZ1 ebZ2 zbZ
      replace OZ := OZ.all hb
      replace OC1 := OC1.all hb
      replace bZ := bZ.all hb
      replace R := R.all hb HB.size
      have OC2 := own.mono HB.size
      clear own
      replace HB := HB.trans (hb.mono HB.size)
      clear hb
      clear hCi hCs
      have ebZ0 := bZ.cell 0
      have ebZ1 := bZ.cell 1
      have ebZ2 := bZ.cell 2
      have zbZ := bZ.lt
      go_wp2_with fail
      refine (vInts_low _ _ _ _ _ _ _ _ cv _ OC1.rd OC2.rd).mono ?_
      rintro e w15 ⟨rfl, hb⟩
      clear ebZ0 ebZ1 ebZ2 zbZ
      replace OZ := OZ.all hb
      replace OC1 := OC1.all hb
      replace OC2 := OC2.all hb
      replace bZ := bZ.all hb
      replace R := R.all hb HB.size
      replace HB := HB.trans (hb.mono HB.size)
      clear hb
      clear OZ bZ OC1 OC2
      go_wp2_with fail
      refine (drawRingLength_any A n c w.heap.size _ R HB.size hn).mono ?_
      rintro e w16 ⟨a, b, rfl, ha, hb1, hb⟩
      replace R := R.all hb HB.size
      replace HB := HB.trans (hb.mono HB.size)
      clear hb
      obtain ⟨l0, hl0⟩ : ∃ vv, ringLenV a b = vv := ⟨_, rfl⟩
      obtain ⟨l1, hl1⟩ : ∃ vv, (ringSideB a && ringSideB b) = vv := ⟨_, rfl⟩
      have hLi : Hid (∀ w : World, Calls Try.prog 10 #[.int .i64 a, .int .i64 b] w (Out w (.tuple #[.int .i64 l0, .bool l1]))) := Lib.hid fun w => (by have := implRingLength_any a b w; rw [hl0, hl1] at this; exact this)
      have hLs : Hid (∀ w : World, Calls Try.prog 21 #[.int .i64 a, .int .i64 b] w (Out w (.tuple #[.int .i64 l0, .bool l1]))) := Lib.hid fun w => (by have := specRingLength_any a b w; rw [hl0, hl1] at this; exact this)
      clear hl0 hl1 ha hb1
      go_wp2_with fail
      refine (hLi.out _).mono ?_
      rintro e w17 ⟨rfl, hb⟩
      replace R := R.all hb HB.size
      replace HB := HB.trans (hb.mono HB.size)
      clear hb
      go_wp2_with fail
      refine (hLs.out _).mono ?_
      rintro e w18 ⟨rfl, hb⟩
      replace R := R.all hb HB.size
      replace HB := HB.trans (hb.mono HB.size)
      clear hb
      go_wp2
      go_ret
      exact ⟨ret_bool (by simp), HB⟩
    case true =>
      have HPG := Lib.hid (HPF.out rfl)
      clear HPF
      have ebP0 := bP.cell 0
      have ebP1 := bP.cell 1
      have ebP2 := bP.cell 2
      have zbP := bP.lt
      go_wp2_with fail
      refine (HPG.out _ _ _ OP.rd).mono ?_
      rintro e w9 ⟨A11, c11, rfl, own, hb⟩
      clear ebP0 ebP1 ebP2 zbP
      replace OL := OL.all hb
      replace OP := OP.all hb
      replace bP := bP.all hb
      replace R := R.all hb HB.size
      have OB := own.mono HB.size
      clear own
      replace HB := HB.trans (hb.mono HB.size)
      clear hb
      clear HPG
      have ebP0 := bP.cell 0
      have ebP1 := bP.cell 1
      have ebP2 := bP.cell 2
      have zbP := bP.lt
      go_wp2_with fail
      refine (vInts_low _ _ _ _ _ _ _ _ cs _ OB.rd OL.rd).mono ?_
      rintro e w10 ⟨rfl, hb⟩
      clear ebP0 ebP1 ebP2 zbP
      replace OL := OL.all hb
      replace OP := OP.all hb
      replace OB := OB.all hb
      replace bP := bP.all hb
      replace R := R.all hb HB.size
      replace HB := HB.trans (hb.mono HB.size)
      clear hb
      clear OP bP OL OB
      go_wp2_with fail
      refine (drawRingPeriod_any A n c w.heap.size _ R HB.size hn).mono ?_
      rintro e w11 ⟨Y0, Y1, A12, c12, ys, rfl, hsm, own, hb⟩
      replace R := R.all hb HB.size
      have OY := own.mono HB.size
      clear own
      replace HB := HB.trans (hb.mono HB.size)
      clear hb
      replace OY := OY.alloc (.cells #[.int .i64 Y0, .int .i64 Y1, .slice A12 ys.length c12] 26)
      replace R := R.alloc HB.size (.cells #[.int .i64 Y0, .int .i64 Y1, .slice A12 ys.length c12] 26)
      have bY := Blk.new w11 #[.int .i64 Y0, .int .i64 Y1, .slice A12 ys.length c12] 26
      replace HB := HB.alloc HB.size (.cells #[.int .i64 Y0, .int .i64 Y1, .slice A12 ys.length c12] 26)
      obtain ⟨pv, hpv⟩ : ∃ vv, perRV Y0 Y1 ys = vv := ⟨_, rfl⟩
      obtain ⟨pb, hpb⟩ : ∃ vv, hasRingB Y0 Y1 ys = vv := ⟨_, rfl⟩
      have hPi : Hid (∀ (w : World) (A : Option Addr) (c : Nat), Rd w w.heap.size A ys.length c ys → Calls Try.prog 11 #[chartV Y0 Y1 (.slice A ys.length c)] w (Out w (.tuple #[.int .i64 pv, .bool pb]))) := Lib.hid fun w A c h => (by have := implRingPeriod_any Y0 Y1 A _ c _ ys w h (Nat.le_refl _); rw [hpv, hpb] at this; exact this)
      have hPs : Hid (∀ (w : World) (A : Option Addr) (c : Nat), Rd w w.heap.size A ys.length c ys → Calls Try.prog 16 #[chartV Y0 Y1 (.slice A ys.length c)] w (Out w (.tuple #[.int .i64 pv, .bool pb]))) := Lib.hid fun w A c h => (by have := specRingPeriod_any Y0 Y1 A _ c _ ys w h (Nat.le_refl _); rw [hpv, hpb] at this; exact this)
      clear hpv hpb hsm
      have ebY0 := bY.cell 0
      have ebY1 := bY.cell 1
      have ebY2 := bY.cell 2
      have zbY := bY.lt
      go_wp2_with fail
      refine (hPi.out _ _ _ OY.rd).mono ?_
      rintro e w12 ⟨rfl, hb⟩
      clear ebY0 ebY1 ebY2 zbY
      replace OY := OY.all hb
      replace bY := bY.all hb
      replace R := R.all hb HB.size
      replace HB := HB.trans (hb.mono HB.size)
      clear hb
      have ebY0 := bY.cell 0
      have ebY1 := bY.cell 1
      have ebY2 := bY.cell 2
      have zbY := bY.lt
      go_wp2_with fail
      refine (hPs.out _ _ _ OY.rd).mono ?_
      rintro e w13 ⟨rfl, hb⟩
      clear ebY0 ebY1 ebY2 zbY
      replace OY := OY.all hb
      replace bY := bY.all hb
      replace R := R.all hb HB.size
      replace HB := HB.trans (hb.mono HB.size)
      clear hb
      clear hPi hPs
      clear OY bY
      go_wp2_with fail
      refine (drawCornersOf_any A n c w.heap.size _ R HB.size hn).mono ?_
      rintro e w14 ⟨Z0, Z1, A13, c13, zs, rfl, hsm, own, hb⟩
      replace R := R.all hb HB.size
      have OZ := own.mono HB.size
      clear own
      replace HB := HB.trans (hb.mono HB.size)
      clear hb
      replace OZ := OZ.alloc (.cells #[.int .i64 Z0, .int .i64 Z1, .slice A13 zs.length c13] 26)
      replace R := R.alloc HB.size (.cells #[.int .i64 Z0, .int .i64 Z1, .slice A13 zs.length c13] 26)
      have bZ := Blk.new w14 #[.int .i64 Z0, .int .i64 Z1, .slice A13 zs.length c13] 26
      replace HB := HB.alloc HB.size (.cells #[.int .i64 Z0, .int .i64 Z1, .slice A13 zs.length c13] 26)
      obtain ⟨cv, hcv⟩ : ∃ vv, cornersX Z0 Z1 zs = vv := ⟨_, rfl⟩
      obtain ⟨cb, hcb⟩ : ∃ vv, hasRingB Z0 Z1 zs = vv := ⟨_, rfl⟩
      have hCi : Hid (∀ (w : World) (A : Option Addr) (c : Nat), Rd w w.heap.size A zs.length c zs → Calls Try.prog 18 #[chartV Z0 Z1 (.slice A zs.length c)] w (OutInts w cv cb)) := Lib.hid fun w A c h => (by have := implCornersOf_any Z0 Z1 A _ c _ zs w h (Nat.le_refl _); rw [hcv, hcb] at this; exact this)
      have hCs : Hid (∀ (w : World) (A : Option Addr) (c : Nat), Rd w w.heap.size A zs.length c zs → Calls Try.prog 19 #[chartV Z0 Z1 (.slice A zs.length c)] w (OutInts w cv cb)) := Lib.hid fun w A c h => (by have := specCornersOf_any Z0 Z1 A _ c _ zs w h (Nat.le_refl _); rw [hcv, hcb] at this; exact this)
      clear hcv hcb hsm
      have ebZ0 := bZ.cell 0
      have ebZ1 := bZ.cell 1
      have ebZ2 := bZ.cell 2
      have zbZ := bZ.lt
      go_wp2_with fail
      refine (hCi.out _ _ _ OZ.rd).mono ?_
      rintro e w15 ⟨A14, c14, rfl, own, hb⟩
      clear ebZ0 ebZ1 ebZ2 zbZ
      replace OZ := OZ.all hb
      replace bZ := bZ.all hb
      replace R := R.all hb HB.size
      have OC1 := own.mono HB.size
      clear own
      replace HB := HB.trans (hb.mono HB.size)
      clear hb
      have ebZ0 := bZ.cell 0
      have ebZ1 := bZ.cell 1
      have ebZ2 := bZ.cell 2
      have zbZ := bZ.lt
      go_wp2_with fail
      refine (hCs.out _ _ _ OZ.rd).mono ?_
      rintro e w16 ⟨A15, c15, rfl, own, hb⟩
      clear ebZ0 ebZ1 ebZ2 zbZ
      replace OZ := OZ.all hb
      replace OC1 := OC1.all hb
      replace bZ := bZ.all hb
      replace R := R.all hb HB.size
      have OC2 := own.mono HB.size
      clear own
      replace HB := HB.trans (hb.mono HB.size)
      clear hb
      clear hCi hCs
      have ebZ0 := bZ.cell 0
      have ebZ1 := bZ.cell 1
      have ebZ2 := bZ.cell 2
      have zbZ := bZ.lt
      go_wp2_with fail
      refine (vInts_low _ _ _ _ _ _ _ _ cv _ OC1.rd OC2.rd).mono ?_
      rintro e w17 ⟨rfl, hb⟩
      clear ebZ0 ebZ1 ebZ2 zbZ
      replace OZ := OZ.all hb
      replace OC1 := OC1.all hb
      replace OC2 := OC2.all hb
      replace bZ := bZ.all hb
      replace R := R.all hb HB.size
      replace HB := HB.trans (hb.mono HB.size)
      clear hb
      clear OZ bZ OC1 OC2
      go_wp2_with fail
      refine (drawRingLength_any A n c w.heap.size _ R HB.size hn).mono ?_
      rintro e w18 ⟨a, b, rfl, ha, hb1, hb⟩
      replace R := R.all hb HB.size
      replace HB := HB.trans (hb.mono HB.size)
      clear hb
      obtain ⟨l0, hl0⟩ : ∃ vv, ringLenV a b = vv := ⟨_, rfl⟩
      obtain ⟨l1, hl1⟩ : ∃ vv, (ringSideB a && ringSideB b) = vv := ⟨_, rfl⟩
      have hLi : Hid (∀ w : World, Calls Try.prog 10 #[.int .i64 a, .int .i64 b] w (Out w (.tuple #[.int .i64 l0, .bool l1]))) := Lib.hid fun w => (by have := implRingLength_any a b w; rw [hl0, hl1] at this; exact this)
      have hLs : Hid (∀ w : World, Calls Try.prog 21 #[.int .i64 a, .int .i64 b] w (Out w (.tuple #[.int .i64 l0, .bool l1]))) := Lib.hid fun w => (by have := specRingLength_any a b w; rw [hl0, hl1] at this; exact this)
      clear hl0 hl1 ha hb1
      go_wp2_with fail
      refine (hLi.out _).mono ?_
      rintro e w19 ⟨rfl, hb⟩
      replace R := R.all hb HB.size
      replace HB := HB.trans (hb.mono HB.size)
      clear hb
      go_wp2_with fail
      refine (hLs.out _).mono ?_
      rintro e w20 ⟨rfl, hb⟩
      replace R := R.all hb HB.size
      replace HB := HB.trans (hb.mono HB.size)
      clear hb
      go_wp2
      go_ret
      exact ⟨ret_bool (by simp), HB⟩
  case true =>
    obtain ⟨k1, k2, k3, k4, p, k5, p1, p2, p3, p4⟩ := HF.out rfl
    have HP4 := Lib.hid p4
    clear HF p4
    have hPu : Hid (∀ (w : World) (A : Option Addr) (c : Nat) (A' : Option Addr) (c' : Nat), Rd w w.heap.size A xs.length c xs → Rd w w.heap.size A' rl.length c' rl → Calls Try.prog 9 #[chartV W H (.slice A xs.length c), .slice A' rl.length c'] w (OutChart w W H xs true)) := Lib.hid fun w A c A' c' h h' => (by have := implPutRing_any W H A _ c _ xs A' _ c' _ rl w h h' (Nat.le_refl _) (Nat.le_refl _); rw [k1, k2] at this; exact this)
    have hRL : Hid (∀ w : World, Calls Try.prog 10 #[.int .i64 W, .int .i64 H] w (Out w (.tuple #[.int .i64 (rl.length : Nat), .bool true]))) := Lib.hid fun w => (by have := implRingLength_any W H w; rw [k3, k4] at this; exact this)
    have hRP : Hid (∀ (w : World) (A : Option Addr) (c : Nat), Rd w w.heap.size A xs.length c xs → Calls Try.prog 11 #[chartV W H (.slice A xs.length c)] w (Out w (.tuple #[.int .i64 (p : Nat), .bool true]))) := Lib.hid fun w A c h => (by have := implRingPeriod_any W H A _ c _ xs w h (Nat.le_refl _); rw [k5, HOK.out] at this; exact this)
    clear k1 k2 k3 k4 k5 HOK
    have ebC0 := bC.cell 0
    have ebC1 := bC.cell 1
    have ebC2 := bC.cell 2
    have zbC := bC.lt
    go_wp2_with fail
    refine (hPu.out _ _ _ _ _ OX.rd OR.rd).mono ?_
    rintro e w5 ⟨A5, c5, rfl, own, hb⟩
    clear ebC0 ebC1 ebC2 zbC
    replace OX := OX.all hb
    replace OR := OR.all hb
    replace bC := bC.all hb
    replace R := R.all hb HB.size
    have OM := own.mono HB.size
    clear own
    replace HB := HB.trans (hb.mono HB.size)
    clear hb
    replace OX := OX.alloc (.cells #[.int .i64 W, .int .i64 H, .slice A5 xs.length c5] 26)
    replace OR := OR.alloc (.cells #[.int .i64 W, .int .i64 H, .slice A5 xs.length c5] 26)
    replace OM := OM.alloc (.cells #[.int .i64 W, .int .i64 H, .slice A5 xs.length c5] 26)
    replace bC := bC.alloc (.cells #[.int .i64 W, .int .i64 H, .slice A5 xs.length c5] 26)
    replace R := R.alloc HB.size (.cells #[.int .i64 W, .int .i64 H, .slice A5 xs.length c5] 26)
    have bM := Blk.new w5 #[.int .i64 W, .int .i64 H, .slice A5 xs.length c5] 26
    replace HB := HB.alloc HB.size (.cells #[.int .i64 W, .int .i64 H, .slice A5 xs.length c5] 26)
    have ebC0 := bC.cell 0
    have ebC1 := bC.cell 1
    have ebC2 := bC.cell 2
    have zbC := bC.lt
    have ebM0 := bM.cell 0
    have ebM1 := bM.cell 1
    have ebM2 := bM.cell 2
    have zbM := bM.lt
    go_wp2_with fail
    refine (hRL.out _).mono ?_
    rintro e w6 ⟨rfl, hb⟩
    clear ebC0 ebC1 ebC2 zbC ebM0 ebM1 ebM2 zbM
    replace OX := OX.all hb
    replace OR := OR.all hb
    replace OM := OM.all hb
    replace bC := bC.all hb
    replace bM := bM.all hb
    replace R := R.all hb HB.size
    replace HB := HB.trans (hb.mono HB.size)
    clear hb
    have ebC0 := bC.cell 0
    have ebC1 := bC.cell 1
    have ebC2 := bC.cell 2
    have zbC := bC.lt
    have ebM0 := bM.cell 0
    have ebM1 := bM.cell 1
    have ebM2 := bM.cell 2
    have zbM := bM.lt
    go_wp2_with fail
    refine (hRP.out _ _ _ OX.rd).mono ?_
    rintro e w7 ⟨rfl, hb⟩
    clear ebC0 ebC1 ebC2 zbC ebM0 ebM1 ebM2 zbM
    replace OX := OX.all hb
    replace OR := OR.all hb
    replace OM := OM.all hb
    replace bC := bC.all hb
    replace bM := bM.all hb
    replace R := R.all hb HB.size
    replace HB := HB.trans (hb.mono HB.size)
    clear hb
    clear hPu hRL hRP
    have HLN := HLEN.out
    have hrem : Int.tmod (rl.length : Int) (p : Int) = 0 := by rw [Int.tmod_eq_emod_of_nonneg (by omega)]; omega
    have hp0 : ((p : Int) == 0) = false := by simp; omega
    have hp0' : ¬ (p : Int) = 0 := by omega
    have hp1 : decide ((p : Int) < 1) = false := decide_eq_false (by omega)
    have ebC0 := bC.cell 0
    have ebC1 := bC.cell 1
    have ebC2 := bC.cell 2
    have zbC := bC.lt
    have ebM0 := bM.cell 0
    have ebM1 := bM.cell 1
    have ebM2 := bM.cell 2
    have zbM := bM.lt
    go_wp2_with fail
    refine (vChart_same W H _ _ _ _ _ _ _ _ xs _ OM.rd OX.rd (Nat.le_refl _) (Nat.le_refl _)).mono ?_
    rintro e w8 ⟨rfl, hb⟩
    clear ebC0 ebC1 ebC2 zbC ebM0 ebM1 ebM2 zbM
    replace OX := OX.all hb
    replace OR := OR.all hb
    replace OM := OM.all hb
    replace bC := bC.all hb
    replace bM := bM.all hb
    replace R := R.all hb HB.size
    replace HB := HB.trans (hb.mono HB.size)
    clear hb
    clear OM bM OX bC
    go_wp2
    go_loopw [14] (fun ii wr => ∃ k q : Nat, p ≤ k ∧ k ≤ rl.length ∧ ii = .int .i64 k ∧ wr = w8.drewN q) (fun ii _ => rl.length - (intOf ii).toNat)
    case atStart => exact ⟨p, 0, Nat.le_refl _, p2, rfl, rfl⟩
    case round =>
      obtain ⟨k, q, hpk, hk, rfl, rfl⟩ := hrel
      by_cases hlt : k < rl.length
      · have ORq := OR.rd
        have hk0 : (0 : Int) ≤ (k : Int) := by omega
        have hk1 : (k : Int) < (rl.length : Int) := by omega
        obtain ⟨b_, off_, x, ea, _, hcx, _, _, HXx⟩ := ORq.at hlt
        obtain ⟨d, HD⟩ : ∃ d, Hid (k - p = d) := ⟨_, rfl⟩
        have HDE := Lib.hid (HP4.out k hpk hlt)
        rw [HD.out] at HDE
        have hdl : d < rl.length := by have : k - p = d := HD.out; omega
        obtain ⟨b2, off2, y, eb, _, hcy, _, _, HYy⟩ := ORq.at hdl
        subst ea
        cases eb
        obtain rfl : x = y := by rw [← HXx.out, ← HYy.out]; exact HDE.out
        have E1 : IntKind.i64.wrap ((k : Int) - (p : Int)) = (d : Int) := by rw [show (k : Int) - (p : Int) = (d : Int) by have : k - p = d := HD.out; omega]; exact IntWalk.i64_in _ (by omega)
        have hd0 : (0 : Int) ≤ (d : Int) := by omega
        have hd1 : (d : Int) < (rl.length : Int) := by omega
        clear HD HDE
        clear HXx HYy
        go_wp2
        go_quiet (fail)
        go_wp2
        go_roundw
        case rel => exact ⟨k + 1, _, by omega, by omega, by go_num, by first | exact drewN_2 _ _ _ | rfl⟩
        case measure => simp [intOf]; omega
      · clear HP4 hrem hp0 hp0' hp1
        replace OR := OR.all (low_drewN _ q)
        replace R := R.all (low_drewN _ q) HB.size
        replace HB := HB.trans ((low_drewN _ q).mono HB.size)
        generalize w8.drewN q = w9 at *
        clear OR
        go_wp2_with fail
        refine (drawPutRing_any A n c w.heap.size _ R HB.size hn).mono ?_
        rintro e w10 ⟨X0, X1, A7, c7, qs, A8, c8, cs, rfl, hsm, hcl, own, own2, hb⟩
        replace R := R.all hb HB.size
        have OQ := own.mono HB.size
        have OL := own2.mono HB.size
        clear own own2
        replace HB := HB.trans (hb.mono HB.size)
        clear hb
        replace OQ := OQ.alloc (.cells #[.int .i64 X0, .int .i64 X1, .slice A7 qs.length c7] 26)
        replace OL := OL.alloc (.cells #[.int .i64 X0, .int .i64 X1, .slice A7 qs.length c7] 26)
        replace R := R.alloc HB.size (.cells #[.int .i64 X0, .int .i64 X1, .slice A7 qs.length c7] 26)
        have bX := Blk.new w10 #[.int .i64 X0, .int .i64 X1, .slice A7 qs.length c7] 26
        replace HB := HB.alloc HB.size (.cells #[.int .i64 X0, .int .i64 X1, .slice A7 qs.length c7] 26)
        obtain ⟨pu, hpu⟩ : ∃ vv, putX8 X0 X1 qs cs = vv := ⟨_, rfl⟩
        obtain ⟨po, hpo⟩ : ∃ vv, putOk8 X0 X1 qs cs = vv := ⟨_, rfl⟩
        obtain ⟨u0, hu0⟩ : ∃ vv, orZero (putOk8 X0 X1 qs cs) X0 = vv := ⟨_, rfl⟩
        obtain ⟨u1, hu1⟩ : ∃ vv, orZero (putOk8 X0 X1 qs cs) X1 = vv := ⟨_, rfl⟩
        have hUi : Hid (∀ (w : World) (A : Option Addr) (c : Nat) (A' : Option Addr) (c' : Nat), Rd w w.heap.size A qs.length c qs → Rd w w.heap.size A' cs.length c' cs → Calls Try.prog 9 #[chartV X0 X1 (.slice A qs.length c), .slice A' cs.length c'] w (OutChart w u0 u1 pu po)) := Lib.hid fun w A c A' c' h h' => (by have := implPutRing_any X0 X1 A _ c _ qs A' _ c' _ cs w h h' (Nat.le_refl _) (Nat.le_refl _); rw [hu0, hu1, hpu, hpo] at this; exact this)
        have hUs : Hid (∀ (w : World) (A : Option Addr) (c : Nat) (A' : Option Addr) (c' : Nat), Rd w w.heap.size A qs.length c qs → Rd w w.heap.size A' cs.length c' cs → Calls Try.prog 14 #[chartV X0 X1 (.slice A qs.length c), .slice A' cs.length c'] w (OutChart w u0 u1 pu po)) := Lib.hid fun w A c A' c' h h' => (by have := specPutRing_any X0 X1 A _ c _ qs A' _ c' _ cs w h h' (Nat.le_refl _) (Nat.le_refl _); rw [hu0, hu1, hpu, hpo] at this; exact this)
        have HPF : Hid (po = true → ∀ (w : World) (A : Option Addr) (c : Nat), Rd w w.heap.size A pu.length c pu → Calls Try.prog 6 #[chartV u0 u1 (.slice A pu.length c)] w (OutInts w cs true)) := Lib.hid fun hh w A c h => by
          obtain ⟨f0, f1, f2, f3⟩ := put_facts (hpo.trans hh)
          rw [hu0] at f0
          rw [hu1] at f1
          rw [hpu] at f2 f3
          have := implRingOf_any X0 X1 A _ c _ pu w h (Nat.le_refl _)
          rw [f2, f3] at this
          rw [f0, f1]
          exact this
        clear hpu hpo hu0 hu1 hsm hcl
        have ebX0 := bX.cell 0
        have ebX1 := bX.cell 1
        have ebX2 := bX.cell 2
        have zbX := bX.lt
        go_wp2_with fail
        refine (hUi.out _ _ _ _ _ OQ.rd OL.rd).mono ?_
        rintro e w11 ⟨A9, c9, rfl, own, hb⟩
        clear ebX0 ebX1 ebX2 zbX
        replace OQ := OQ.all hb
        replace OL := OL.all hb
        replace bX := bX.all hb
        replace R := R.all hb HB.size
        have OP := own.mono HB.size
        clear own
        replace HB := HB.trans (hb.mono HB.size)
        clear hb
        replace OQ := OQ.alloc (.cells #[.int .i64 u0, .int .i64 u1, .slice A9 pu.length c9] 26)
        replace OL := OL.alloc (.cells #[.int .i64 u0, .int .i64 u1, .slice A9 pu.length c9] 26)
        replace OP := OP.alloc (.cells #[.int .i64 u0, .int .i64 u1, .slice A9 pu.length c9] 26)
        replace bX := bX.alloc (.cells #[.int .i64 u0, .int .i64 u1, .slice A9 pu.length c9] 26)
        replace R := R.alloc HB.size (.cells #[.int .i64 u0, .int .i64 u1, .slice A9 pu.length c9] 26)
        have bP := Blk.new w11 #[.int .i64 u0, .int .i64 u1, .slice A9 pu.length c9] 26
        replace HB := HB.alloc HB.size (.cells #[.int .i64 u0, .int .i64 u1, .slice A9 pu.length c9] 26)
        have ebX0 := bX.cell 0
        have ebX1 := bX.cell 1
        have ebX2 := bX.cell 2
        have zbX := bX.lt
        have ebP0 := bP.cell 0
        have ebP1 := bP.cell 1
        have ebP2 := bP.cell 2
        have zbP := bP.lt
        go_wp2_with fail
        refine (hUs.out _ _ _ _ _ OQ.rd OL.rd).mono ?_
        rintro e w12 ⟨A10, c10, rfl, own, hb⟩
        clear ebX0 ebX1 ebX2 zbX ebP0 ebP1 ebP2 zbP
        replace OQ := OQ.all hb
        replace OL := OL.all hb
        replace OP := OP.all hb
        replace bX := bX.all hb
        replace bP := bP.all hb
        replace R := R.all hb HB.size
        have OW := own.mono HB.size
        clear own
        replace HB := HB.trans (hb.mono HB.size)
        clear hb
        replace OQ := OQ.alloc (.cells #[.int .i64 u0, .int .i64 u1, .slice A10 pu.length c10] 26)
        replace OL := OL.alloc (.cells #[.int .i64 u0, .int .i64 u1, .slice A10 pu.length c10] 26)
        replace OP := OP.alloc (.cells #[.int .i64 u0, .int .i64 u1, .slice A10 pu.length c10] 26)
        replace OW := OW.alloc (.cells #[.int .i64 u0, .int .i64 u1, .slice A10 pu.length c10] 26)
        replace bX := bX.alloc (.cells #[.int .i64 u0, .int .i64 u1, .slice A10 pu.length c10] 26)
        replace bP := bP.alloc (.cells #[.int .i64 u0, .int .i64 u1, .slice A10 pu.length c10] 26)
        replace R := R.alloc HB.size (.cells #[.int .i64 u0, .int .i64 u1, .slice A10 pu.length c10] 26)
        have bW := Blk.new w12 #[.int .i64 u0, .int .i64 u1, .slice A10 pu.length c10] 26
        replace HB := HB.alloc HB.size (.cells #[.int .i64 u0, .int .i64 u1, .slice A10 pu.length c10] 26)
        clear hUi hUs
        have ebX0 := bX.cell 0
        have ebX1 := bX.cell 1
        have ebX2 := bX.cell 2
        have zbX := bX.lt
        have ebP0 := bP.cell 0
        have ebP1 := bP.cell 1
        have ebP2 := bP.cell 2
        have zbP := bP.lt
        have ebW0 := bW.cell 0
        have ebW1 := bW.cell 1
        have ebW2 := bW.cell 2
        have zbW := bW.lt
        go_wp2_with fail
        refine (vChart_same u0 u1 _ _ _ _ _ _ _ _ pu _ OP.rd OW.rd (Nat.le_refl _) (Nat.le_refl _)).mono ?_
        rintro e w13 ⟨rfl, hb⟩
        clear ebX0 ebX1 ebX2 zbX ebP0 ebP1 ebP2 zbP ebW0 ebW1 ebW2 zbW
        replace OQ := OQ.all hb
        replace OL := OL.all hb
        replace OP := OP.all hb
        replace OW := OW.all hb
        replace bX := bX.all hb
        replace bP := bP.all hb
        replace bW := bW.all hb
        replace R := R.all hb HB.size
        replace HB := HB.trans (hb.mono HB.size)
        clear hb
        clear OW bW OQ bX
        cases po
        case false =>
          clear HPF
          clear OP bP OL
          go_wp2_with fail
          refine (drawRingPeriod_any A n c w.heap.size _ R HB.size hn).mono ?_
          rintro e w14 ⟨Y0, Y1, A12, c12, ys, rfl, hsm, own, hb⟩
          replace R := R.all hb HB.size
          have OY := own.mono HB.size
          clear own
          replace HB := HB.trans (hb.mono HB.size)
          clear hb
          replace OY := OY.alloc (.cells #[.int .i64 Y0, .int .i64 Y1, .slice A12 ys.length c12] 26)
          replace R := R.alloc HB.size (.cells #[.int .i64 Y0, .int .i64 Y1, .slice A12 ys.length c12] 26)
          have bY := Blk.new w14 #[.int .i64 Y0, .int .i64 Y1, .slice A12 ys.length c12] 26
          replace HB := HB.alloc HB.size (.cells #[.int .i64 Y0, .int .i64 Y1, .slice A12 ys.length c12] 26)
          obtain ⟨pv, hpv⟩ : ∃ vv, perRV Y0 Y1 ys = vv := ⟨_, rfl⟩
          obtain ⟨pb, hpb⟩ : ∃ vv, hasRingB Y0 Y1 ys = vv := ⟨_, rfl⟩
          have hPi : Hid (∀ (w : World) (A : Option Addr) (c : Nat), Rd w w.heap.size A ys.length c ys → Calls Try.prog 11 #[chartV Y0 Y1 (.slice A ys.length c)] w (Out w (.tuple #[.int .i64 pv, .bool pb]))) := Lib.hid fun w A c h => (by have := implRingPeriod_any Y0 Y1 A _ c _ ys w h (Nat.le_refl _); rw [hpv, hpb] at this; exact this)
          have hPs : Hid (∀ (w : World) (A : Option Addr) (c : Nat), Rd w w.heap.size A ys.length c ys → Calls Try.prog 16 #[chartV Y0 Y1 (.slice A ys.length c)] w (Out w (.tuple #[.int .i64 pv, .bool pb]))) := Lib.hid fun w A c h => (by have := specRingPeriod_any Y0 Y1 A _ c _ ys w h (Nat.le_refl _); rw [hpv, hpb] at this; exact this)
          clear hpv hpb hsm
          have ebY0 := bY.cell 0
          have ebY1 := bY.cell 1
          have ebY2 := bY.cell 2
          have zbY := bY.lt
          go_wp2_with fail
          refine (hPi.out _ _ _ OY.rd).mono ?_
          rintro e w15 ⟨rfl, hb⟩
          clear ebY0 ebY1 ebY2 zbY
          replace OY := OY.all hb
          replace bY := bY.all hb
          replace R := R.all hb HB.size
          replace HB := HB.trans (hb.mono HB.size)
          clear hb
          have ebY0 := bY.cell 0
          have ebY1 := bY.cell 1
          have ebY2 := bY.cell 2
          have zbY := bY.lt
          go_wp2_with fail
          refine (hPs.out _ _ _ OY.rd).mono ?_
          rintro e w16 ⟨rfl, hb⟩
          clear ebY0 ebY1 ebY2 zbY
          replace OY := OY.all hb
          replace bY := bY.all hb
          replace R := R.all hb HB.size
          replace HB := HB.trans (hb.mono HB.size)
          clear hb
          clear hPi hPs
          clear OY bY
          go_wp2_with fail
          refine (drawCornersOf_any A n c w.heap.size _ R HB.size hn).mono ?_
          rintro e w17 ⟨Z0, Z1, A13, c13, zs, rfl, hsm, own, hb⟩
          replace R := R.all hb HB.size
          have OZ := own.mono HB.size
          clear own
          replace HB := HB.trans (hb.mono HB.size)
          clear hb
          replace OZ := OZ.alloc (.cells #[.int .i64 Z0, .int .i64 Z1, .slice A13 zs.length c13] 26)
          replace R := R.alloc HB.size (.cells #[.int .i64 Z0, .int .i64 Z1, .slice A13 zs.length c13] 26)
          have bZ := Blk.new w17 #[.int .i64 Z0, .int .i64 Z1, .slice A13 zs.length c13] 26
          replace HB := HB.alloc HB.size (.cells #[.int .i64 Z0, .int .i64 Z1, .slice A13 zs.length c13] 26)
          obtain ⟨cv, hcv⟩ : ∃ vv, cornersX Z0 Z1 zs = vv := ⟨_, rfl⟩
          obtain ⟨cb, hcb⟩ : ∃ vv, hasRingB Z0 Z1 zs = vv := ⟨_, rfl⟩
          have hCi : Hid (∀ (w : World) (A : Option Addr) (c : Nat), Rd w w.heap.size A zs.length c zs → Calls Try.prog 18 #[chartV Z0 Z1 (.slice A zs.length c)] w (OutInts w cv cb)) := Lib.hid fun w A c h => (by have := implCornersOf_any Z0 Z1 A _ c _ zs w h (Nat.le_refl _); rw [hcv, hcb] at this; exact this)
          have hCs : Hid (∀ (w : World) (A : Option Addr) (c : Nat), Rd w w.heap.size A zs.length c zs → Calls Try.prog 19 #[chartV Z0 Z1 (.slice A zs.length c)] w (OutInts w cv cb)) := Lib.hid fun w A c h => (by have := specCornersOf_any Z0 Z1 A _ c _ zs w h (Nat.le_refl _); rw [hcv, hcb] at this; exact this)
          clear hcv hcb hsm
          have ebZ0 := bZ.cell 0
          have ebZ1 := bZ.cell 1
          have ebZ2 := bZ.cell 2
          have zbZ := bZ.lt
          go_wp2_with fail
          refine (hCi.out _ _ _ OZ.rd).mono ?_
          rintro e w18 ⟨A14, c14, rfl, own, hb⟩
          clear ebZ0 ebZ1 ebZ2 zbZ
          replace OZ := OZ.all hb
          replace bZ := bZ.all hb
          replace R := R.all hb HB.size
          have OC1 := own.mono HB.size
          clear own
          replace HB := HB.trans (hb.mono HB.size)
          clear hb
          have ebZ0 := bZ.cell 0
          have ebZ1 := bZ.cell 1
          have ebZ2 := bZ.cell 2
          have zbZ := bZ.lt
          go_wp2_with fail
          refine (hCs.out _ _ _ OZ.rd).mono ?_
          rintro e w19 ⟨A15, c15, rfl, own, hb⟩
          clear ebZ0 ebZ1 ebZ2 zbZ
          replace OZ := OZ.all hb
          replace OC1 := OC1.all hb
          replace bZ := bZ.all hb
          replace R := R.all hb HB.size
          have OC2 := own.mono HB.size
          clear own
          replace HB := HB.trans (hb.mono HB.size)
          clear hb
          clear hCi hCs
          have ebZ0 := bZ.cell 0
          have ebZ1 := bZ.cell 1
          have ebZ2 := bZ.cell 2
          have zbZ := bZ.lt
          go_wp2_with fail
          refine (vInts_low _ _ _ _ _ _ _ _ cv _ OC1.rd OC2.rd).mono ?_
          rintro e w20 ⟨rfl, hb⟩
          clear ebZ0 ebZ1 ebZ2 zbZ
          replace OZ := OZ.all hb
          replace OC1 := OC1.all hb
          replace OC2 := OC2.all hb
          replace bZ := bZ.all hb
          replace R := R.all hb HB.size
          replace HB := HB.trans (hb.mono HB.size)
          clear hb
          clear OZ bZ OC1 OC2
          go_wp2_with fail
          refine (drawRingLength_any A n c w.heap.size _ R HB.size hn).mono ?_
          rintro e w21 ⟨a, b, rfl, ha, hb1, hb⟩
          replace R := R.all hb HB.size
          replace HB := HB.trans (hb.mono HB.size)
          clear hb
          obtain ⟨l0, hl0⟩ : ∃ vv, ringLenV a b = vv := ⟨_, rfl⟩
          obtain ⟨l1, hl1⟩ : ∃ vv, (ringSideB a && ringSideB b) = vv := ⟨_, rfl⟩
          have hLi : Hid (∀ w : World, Calls Try.prog 10 #[.int .i64 a, .int .i64 b] w (Out w (.tuple #[.int .i64 l0, .bool l1]))) := Lib.hid fun w => (by have := implRingLength_any a b w; rw [hl0, hl1] at this; exact this)
          have hLs : Hid (∀ w : World, Calls Try.prog 21 #[.int .i64 a, .int .i64 b] w (Out w (.tuple #[.int .i64 l0, .bool l1]))) := Lib.hid fun w => (by have := specRingLength_any a b w; rw [hl0, hl1] at this; exact this)
          clear hl0 hl1 ha hb1
          go_wp2_with fail
          refine (hLi.out _).mono ?_
          rintro e w22 ⟨rfl, hb⟩
          replace R := R.all hb HB.size
          replace HB := HB.trans (hb.mono HB.size)
          clear hb
          go_wp2_with fail
          refine (hLs.out _).mono ?_
          rintro e w23 ⟨rfl, hb⟩
          replace R := R.all hb HB.size
          replace HB := HB.trans (hb.mono HB.size)
          clear hb
          go_wp2
          go_ret
          exact ⟨ret_bool (by simp), HB⟩
        case true =>
          have HPG := Lib.hid (HPF.out rfl)
          clear HPF
          have ebP0 := bP.cell 0
          have ebP1 := bP.cell 1
          have ebP2 := bP.cell 2
          have zbP := bP.lt
          go_wp2_with fail
          refine (HPG.out _ _ _ OP.rd).mono ?_
          rintro e w14 ⟨A11, c11, rfl, own, hb⟩
          clear ebP0 ebP1 ebP2 zbP
          replace OL := OL.all hb
          replace OP := OP.all hb
          replace bP := bP.all hb
          replace R := R.all hb HB.size
          have OB := own.mono HB.size
          clear own
          replace HB := HB.trans (hb.mono HB.size)
          clear hb
          clear HPG
          have ebP0 := bP.cell 0
          have ebP1 := bP.cell 1
          have ebP2 := bP.cell 2
          have zbP := bP.lt
          go_wp2_with fail
          refine (vInts_low _ _ _ _ _ _ _ _ cs _ OB.rd OL.rd).mono ?_
          rintro e w15 ⟨rfl, hb⟩
          clear ebP0 ebP1 ebP2 zbP
          replace OL := OL.all hb
          replace OP := OP.all hb
          replace OB := OB.all hb
          replace bP := bP.all hb
          replace R := R.all hb HB.size
          replace HB := HB.trans (hb.mono HB.size)
          clear hb
          clear OP bP OL OB
          go_wp2_with fail
          refine (drawRingPeriod_any A n c w.heap.size _ R HB.size hn).mono ?_
          rintro e w16 ⟨Y0, Y1, A12, c12, ys, rfl, hsm, own, hb⟩
          replace R := R.all hb HB.size
          have OY := own.mono HB.size
          clear own
          replace HB := HB.trans (hb.mono HB.size)
          clear hb
          replace OY := OY.alloc (.cells #[.int .i64 Y0, .int .i64 Y1, .slice A12 ys.length c12] 26)
          replace R := R.alloc HB.size (.cells #[.int .i64 Y0, .int .i64 Y1, .slice A12 ys.length c12] 26)
          have bY := Blk.new w16 #[.int .i64 Y0, .int .i64 Y1, .slice A12 ys.length c12] 26
          replace HB := HB.alloc HB.size (.cells #[.int .i64 Y0, .int .i64 Y1, .slice A12 ys.length c12] 26)
          obtain ⟨pv, hpv⟩ : ∃ vv, perRV Y0 Y1 ys = vv := ⟨_, rfl⟩
          obtain ⟨pb, hpb⟩ : ∃ vv, hasRingB Y0 Y1 ys = vv := ⟨_, rfl⟩
          have hPi : Hid (∀ (w : World) (A : Option Addr) (c : Nat), Rd w w.heap.size A ys.length c ys → Calls Try.prog 11 #[chartV Y0 Y1 (.slice A ys.length c)] w (Out w (.tuple #[.int .i64 pv, .bool pb]))) := Lib.hid fun w A c h => (by have := implRingPeriod_any Y0 Y1 A _ c _ ys w h (Nat.le_refl _); rw [hpv, hpb] at this; exact this)
          have hPs : Hid (∀ (w : World) (A : Option Addr) (c : Nat), Rd w w.heap.size A ys.length c ys → Calls Try.prog 16 #[chartV Y0 Y1 (.slice A ys.length c)] w (Out w (.tuple #[.int .i64 pv, .bool pb]))) := Lib.hid fun w A c h => (by have := specRingPeriod_any Y0 Y1 A _ c _ ys w h (Nat.le_refl _); rw [hpv, hpb] at this; exact this)
          clear hpv hpb hsm
          have ebY0 := bY.cell 0
          have ebY1 := bY.cell 1
          have ebY2 := bY.cell 2
          have zbY := bY.lt
          go_wp2_with fail
          refine (hPi.out _ _ _ OY.rd).mono ?_
          rintro e w17 ⟨rfl, hb⟩
          clear ebY0 ebY1 ebY2 zbY
          replace OY := OY.all hb
          replace bY := bY.all hb
          replace R := R.all hb HB.size
          replace HB := HB.trans (hb.mono HB.size)
          clear hb
          have ebY0 := bY.cell 0
          have ebY1 := bY.cell 1
          have ebY2 := bY.cell 2
          have zbY := bY.lt
          go_wp2_with fail
          refine (hPs.out _ _ _ OY.rd).mono ?_
          rintro e w18 ⟨rfl, hb⟩
          clear ebY0 ebY1 ebY2 zbY
          replace OY := OY.all hb
          replace bY := bY.all hb
          replace R := R.all hb HB.size
          replace HB := HB.trans (hb.mono HB.size)
          clear hb
          clear hPi hPs
          clear OY bY
          go_wp2_with fail
          refine (drawCornersOf_any A n c w.heap.size _ R HB.size hn).mono ?_
          rintro e w19 ⟨Z0, Z1, A13, c13, zs, rfl, hsm, own, hb⟩
          replace R := R.all hb HB.size
          have OZ := own.mono HB.size
          clear own
          replace HB := HB.trans (hb.mono HB.size)
          clear hb
          replace OZ := OZ.alloc (.cells #[.int .i64 Z0, .int .i64 Z1, .slice A13 zs.length c13] 26)
          replace R := R.alloc HB.size (.cells #[.int .i64 Z0, .int .i64 Z1, .slice A13 zs.length c13] 26)
          have bZ := Blk.new w19 #[.int .i64 Z0, .int .i64 Z1, .slice A13 zs.length c13] 26
          replace HB := HB.alloc HB.size (.cells #[.int .i64 Z0, .int .i64 Z1, .slice A13 zs.length c13] 26)
          obtain ⟨cv, hcv⟩ : ∃ vv, cornersX Z0 Z1 zs = vv := ⟨_, rfl⟩
          obtain ⟨cb, hcb⟩ : ∃ vv, hasRingB Z0 Z1 zs = vv := ⟨_, rfl⟩
          have hCi : Hid (∀ (w : World) (A : Option Addr) (c : Nat), Rd w w.heap.size A zs.length c zs → Calls Try.prog 18 #[chartV Z0 Z1 (.slice A zs.length c)] w (OutInts w cv cb)) := Lib.hid fun w A c h => (by have := implCornersOf_any Z0 Z1 A _ c _ zs w h (Nat.le_refl _); rw [hcv, hcb] at this; exact this)
          have hCs : Hid (∀ (w : World) (A : Option Addr) (c : Nat), Rd w w.heap.size A zs.length c zs → Calls Try.prog 19 #[chartV Z0 Z1 (.slice A zs.length c)] w (OutInts w cv cb)) := Lib.hid fun w A c h => (by have := specCornersOf_any Z0 Z1 A _ c _ zs w h (Nat.le_refl _); rw [hcv, hcb] at this; exact this)
          clear hcv hcb hsm
          have ebZ0 := bZ.cell 0
          have ebZ1 := bZ.cell 1
          have ebZ2 := bZ.cell 2
          have zbZ := bZ.lt
          go_wp2_with fail
          refine (hCi.out _ _ _ OZ.rd).mono ?_
          rintro e w20 ⟨A14, c14, rfl, own, hb⟩
          clear ebZ0 ebZ1 ebZ2 zbZ
          replace OZ := OZ.all hb
          replace bZ := bZ.all hb
          replace R := R.all hb HB.size
          have OC1 := own.mono HB.size
          clear own
          replace HB := HB.trans (hb.mono HB.size)
          clear hb
          have ebZ0 := bZ.cell 0
          have ebZ1 := bZ.cell 1
          have ebZ2 := bZ.cell 2
          have zbZ := bZ.lt
          go_wp2_with fail
          refine (hCs.out _ _ _ OZ.rd).mono ?_
          rintro e w21 ⟨A15, c15, rfl, own, hb⟩
          clear ebZ0 ebZ1 ebZ2 zbZ
          replace OZ := OZ.all hb
          replace OC1 := OC1.all hb
          replace bZ := bZ.all hb
          replace R := R.all hb HB.size
          have OC2 := own.mono HB.size
          clear own
          replace HB := HB.trans (hb.mono HB.size)
          clear hb
          clear hCi hCs
          have ebZ0 := bZ.cell 0
          have ebZ1 := bZ.cell 1
          have ebZ2 := bZ.cell 2
          have zbZ := bZ.lt
          go_wp2_with fail
          refine (vInts_low _ _ _ _ _ _ _ _ cv _ OC1.rd OC2.rd).mono ?_
          rintro e w22 ⟨rfl, hb⟩
          clear ebZ0 ebZ1 ebZ2 zbZ
          replace OZ := OZ.all hb
          replace OC1 := OC1.all hb
          replace OC2 := OC2.all hb
          replace bZ := bZ.all hb
          replace R := R.all hb HB.size
          replace HB := HB.trans (hb.mono HB.size)
          clear hb
          clear OZ bZ OC1 OC2
          go_wp2_with fail
          refine (drawRingLength_any A n c w.heap.size _ R HB.size hn).mono ?_
          rintro e w23 ⟨a, b, rfl, ha, hb1, hb⟩
          replace R := R.all hb HB.size
          replace HB := HB.trans (hb.mono HB.size)
          clear hb
          obtain ⟨l0, hl0⟩ : ∃ vv, ringLenV a b = vv := ⟨_, rfl⟩
          obtain ⟨l1, hl1⟩ : ∃ vv, (ringSideB a && ringSideB b) = vv := ⟨_, rfl⟩
          have hLi : Hid (∀ w : World, Calls Try.prog 10 #[.int .i64 a, .int .i64 b] w (Out w (.tuple #[.int .i64 l0, .bool l1]))) := Lib.hid fun w => (by have := implRingLength_any a b w; rw [hl0, hl1] at this; exact this)
          have hLs : Hid (∀ w : World, Calls Try.prog 21 #[.int .i64 a, .int .i64 b] w (Out w (.tuple #[.int .i64 l0, .bool l1]))) := Lib.hid fun w => (by have := specRingLength_any a b w; rw [hl0, hl1] at this; exact this)
          clear hl0 hl1 ha hb1
          go_wp2_with fail
          refine (hLi.out _).mono ?_
          rintro e w24 ⟨rfl, hb⟩
          replace R := R.all hb HB.size
          replace HB := HB.trans (hb.mono HB.size)
          clear hb
          go_wp2_with fail
          refine (hLs.out _).mono ?_
          rintro e w25 ⟨rfl, hb⟩
          replace R := R.all hb HB.size
          replace HB := HB.trans (hb.mono HB.size)
          clear hb
          go_wp2
          go_ret
          exact ⟨ret_bool (by simp), HB⟩
end Go.Proofs.Ytmaiakaeiokikaa
