/- The walk of the law FnParts. No condition. -/
import Derived.Test.YtbhdgpkfighjfaaDraws2P
import Derived.Test.YtbhdgpkfighjfaaDraws2PO
import Derived.Test.YtbhdgpkfighjfaaDraws2Q
import Derived.Test.YtbhdgpkfighjfaaPartsMath
import Derived.Test.YtbhdgpkfighjfaaPart2
import Derived.Test.YtbhdgpkfighjfaaRun
import Derived.Deep.CutRange
namespace Go.Proofs.Ytbhdgpkfighjfaa
open Go.RowKit

set_option maxRecDepth 100000 in
set_option maxHeartbeats 16000000 in
theorem fnParts_walk (w : World) (A : Option Addr) (n c : Nat) (R : RdB w w.heap.size A n c) : Calls Try.prog 3 #[.slice A n c] w fun e w' => e = .returned (.bool true) ∧ Below w.heap.size w w' := by
  have hcap := R.cap
  have hmax := R.max
  unfold maxLen at hmax
  have HB := Below.refl w.heap.size w
  by_cases hn : n ≤ 65536
  · go_enter Try.func3, Try.ntmps3
    go_wp2_with fail
    refine (vBig_eq A n c _ (by omega) false (by simp; omega)).mono ?_
    rintro e w' ⟨rfl, rfl⟩
    go_wp2_with fail
    refine (drawPartOf_any A n c w.heap.size _ R HB.size hn).mono ?_
    rintro e w1 ⟨W, H, A2, c2, xs, r, q, h, k, rfl, hsm, hr, hq, hh, hk, own, hb⟩
    replace R := R.all hb HB.size
    have OX := own.mono HB.size
    clear own
    replace HB := HB.trans (hb.mono HB.size)
    clear hb
    replace OX := OX.alloc (.cells #[.int .i64 W, .int .i64 H, .slice A2 xs.length c2] 26)
    replace R := R.alloc HB.size (.cells #[.int .i64 W, .int .i64 H, .slice A2 xs.length c2] 26)
    have bX := Blk.new w1 #[.int .i64 W, .int .i64 H, .slice A2 xs.length c2] 26
    replace HB := HB.alloc HB.size (.cells #[.int .i64 W, .int .i64 H, .slice A2 xs.length c2] 26)
    clear hsm hh hk
    obtain ⟨po, hpo⟩ : ∃ z, partOk W H xs r q h k = z := ⟨_, rfl⟩
    obtain ⟨px, hpx⟩ : ∃ z, partX W H xs r q h k = z := ⟨_, rfl⟩
    obtain ⟨pw, hpw⟩ : ∃ z, orZero (partOk W H xs r q h k) k = z := ⟨_, rfl⟩
    obtain ⟨ph, hph⟩ : ∃ z, orZero (partOk W H xs r q h k) h = z := ⟨_, rfl⟩
    have hPi : Hid (∀ (w : World) (A : Option Addr) (c : Nat), Rd w w.heap.size A xs.length c xs → Calls Try.prog 6 #[chartV W H (.slice A xs.length c), .int .i64 r, .int .i64 q, .int .i64 h, .int .i64 k] w (OutChart w pw ph px po)) := Lib.hid fun w A c hrd => (by have := implPartOf_any W H A _ c _ xs r q h k w hrd (Nat.le_refl _) hr hq; rw [hpw, hph, hpx, hpo] at this; exact this)
    have hPs : Hid (∀ (w : World) (A : Option Addr) (c : Nat), Rd w w.heap.size A xs.length c xs → Calls Try.prog 7 #[chartV W H (.slice A xs.length c), .int .i64 r, .int .i64 q, .int .i64 h, .int .i64 k] w (OutChart w pw ph px po)) := Lib.hid fun w A c hrd => (by have := specPartOf_any W H A _ c _ xs r q h k w hrd (Nat.le_refl _); rw [hpw, hph, hpx, hpo] at this; exact this)
    have HPB : Hid (po = true → pw = k ∧ ph = h ∧ partOk W H xs r q h k = true ∧ px = partX W H xs r q h k) := Lib.hid fun ht => by
      rw [hpo, ht] at hpw hph
      exact ⟨hpw.symm, hph.symm, hpo.trans ht, hpx.symm⟩
    clear hpo hpx hpw hph
    have ebX0 := bX.cell 0
    have ebX1 := bX.cell 1
    have ebX2 := bX.cell 2
    have zbX := bX.lt
    go_wp2_with fail
    refine (hPi.out _ _ _ OX.rd).mono ?_
    rintro e w2 ⟨A3, c3, rfl, own, hb⟩
    clear ebX0 ebX1 ebX2 zbX
    replace OX := OX.all hb
    replace bX := bX.all hb
    replace R := R.all hb HB.size
    have OA := own.mono HB.size
    clear own
    replace HB := HB.trans (hb.mono HB.size)
    clear hb
    replace OX := OX.alloc (.cells #[.int .i64 pw, .int .i64 ph, .slice A3 px.length c3] 26)
    replace OA := OA.alloc (.cells #[.int .i64 pw, .int .i64 ph, .slice A3 px.length c3] 26)
    replace bX := bX.alloc (.cells #[.int .i64 pw, .int .i64 ph, .slice A3 px.length c3] 26)
    replace R := R.alloc HB.size (.cells #[.int .i64 pw, .int .i64 ph, .slice A3 px.length c3] 26)
    have bA := Blk.new w2 #[.int .i64 pw, .int .i64 ph, .slice A3 px.length c3] 26
    replace HB := HB.alloc HB.size (.cells #[.int .i64 pw, .int .i64 ph, .slice A3 px.length c3] 26)
    have ebX0 := bX.cell 0
    have ebX1 := bX.cell 1
    have ebX2 := bX.cell 2
    have zbX := bX.lt
    have ebA0 := bA.cell 0
    have ebA1 := bA.cell 1
    have ebA2 := bA.cell 2
    have zbA := bA.lt
    go_wp2_with fail
    refine (hPs.out _ _ _ OX.rd).mono ?_
    rintro e w3 ⟨A4, c4, rfl, own, hb⟩
    clear ebX0 ebX1 ebX2 zbX ebA0 ebA1 ebA2 zbA
    replace OX := OX.all hb
    replace OA := OA.all hb
    replace bX := bX.all hb
    replace bA := bA.all hb
    replace R := R.all hb HB.size
    have OB := own.mono HB.size
    clear own
    replace HB := HB.trans (hb.mono HB.size)
    clear hb
    replace OX := OX.alloc (.cells #[.int .i64 pw, .int .i64 ph, .slice A4 px.length c4] 26)
    replace OA := OA.alloc (.cells #[.int .i64 pw, .int .i64 ph, .slice A4 px.length c4] 26)
    replace OB := OB.alloc (.cells #[.int .i64 pw, .int .i64 ph, .slice A4 px.length c4] 26)
    replace bX := bX.alloc (.cells #[.int .i64 pw, .int .i64 ph, .slice A4 px.length c4] 26)
    replace bA := bA.alloc (.cells #[.int .i64 pw, .int .i64 ph, .slice A4 px.length c4] 26)
    replace R := R.alloc HB.size (.cells #[.int .i64 pw, .int .i64 ph, .slice A4 px.length c4] 26)
    have bB := Blk.new w3 #[.int .i64 pw, .int .i64 ph, .slice A4 px.length c4] 26
    replace HB := HB.alloc HB.size (.cells #[.int .i64 pw, .int .i64 ph, .slice A4 px.length c4] 26)
    clear hPi hPs
    have ebX0 := bX.cell 0
    have ebX1 := bX.cell 1
    have ebX2 := bX.cell 2
    have zbX := bX.lt
    have ebA0 := bA.cell 0
    have ebA1 := bA.cell 1
    have ebA2 := bA.cell 2
    have zbA := bA.lt
    have ebB0 := bB.cell 0
    have ebB1 := bB.cell 1
    have ebB2 := bB.cell 2
    have zbB := bB.lt
    go_upto_region 6 with fail
    go_cut [81] from 73 to 81 (fun t wx => t = .bool false ∧ Below (w3.alloc (.cells #[.int .i64 pw, .int .i64 ph, .slice A4 px.length c4] 26)).heap.size (w3.alloc (.cells #[.int .i64 pw, .int .i64 ph, .slice A4 px.length c4] 26)) wx)
    case first =>
      go_wp2_with fail
      refine (vChart_same pw ph _ _ _ _ _ _ _ _ px _ OA.rd OB.rd (Nat.le_refl _) (Nat.le_refl _)).mono ?_
      rintro e wb ⟨rfl, hb⟩
      go_wp2_with fail
      go_meet
      exact ⟨rfl, hb⟩
    case rest =>
      obtain ⟨rfl, hb⟩ := hcut
      obtain ⟨w4, hw⟩ : ∃ w4, w4 = wc := ⟨_, rfl⟩
      subst hw
      clear ebX0 ebX1 ebX2 zbX ebA0 ebA1 ebA2 zbA ebB0 ebB1 ebB2 zbB
      replace OX := OX.all hb
      replace OA := OA.all hb
      replace OB := OB.all hb
      replace bX := bX.all hb
      replace bA := bA.all hb
      replace bB := bB.all hb
      replace R := R.all hb HB.size
      replace HB := HB.trans (hb.mono HB.size)
      clear hb
      clear OB bB
      cases po
      · clear HPB hr hq
        clear OX OA bX bA
        go_wp2_with fail
        refine (drawPutPart_any A n c w.heap.size _ R HB.size hn).mono ?_
        rintro e w5 ⟨W, H, A2, c2, xs, pW, pH, A3, c3, ys, r, q, rfl, hsm, hsm2, hr, hq, own, ownB, hb⟩
        replace R := R.all hb HB.size
        have OX := own.mono HB.size
        have OY := ownB.mono HB.size
        clear own ownB
        replace HB := HB.trans (hb.mono HB.size)
        clear hb
        replace OX := OX.alloc (.cells #[.int .i64 W, .int .i64 H, .slice A2 xs.length c2] 26)
        replace OY := OY.alloc (.cells #[.int .i64 W, .int .i64 H, .slice A2 xs.length c2] 26)
        replace R := R.alloc HB.size (.cells #[.int .i64 W, .int .i64 H, .slice A2 xs.length c2] 26)
        have bX := Blk.new w5 #[.int .i64 W, .int .i64 H, .slice A2 xs.length c2] 26
        replace HB := HB.alloc HB.size (.cells #[.int .i64 W, .int .i64 H, .slice A2 xs.length c2] 26)
        replace OX := OX.alloc (.cells #[.int .i64 pW, .int .i64 pH, .slice A3 ys.length c3] 26)
        replace OY := OY.alloc (.cells #[.int .i64 pW, .int .i64 pH, .slice A3 ys.length c3] 26)
        replace bX := bX.alloc (.cells #[.int .i64 pW, .int .i64 pH, .slice A3 ys.length c3] 26)
        replace R := R.alloc HB.size (.cells #[.int .i64 pW, .int .i64 pH, .slice A3 ys.length c3] 26)
        have bY := (Blk.new (w5.alloc (.cells #[.int .i64 W, .int .i64 H, .slice A2 xs.length c2] 26)) #[.int .i64 pW, .int .i64 pH, .slice A3 ys.length c3] 26).at_ (q := w5.heap.size + 1) (by simp)
        replace HB := HB.alloc HB.size (.cells #[.int .i64 pW, .int .i64 pH, .slice A3 ys.length c3] 26)
        clear hsm hsm2
        obtain ⟨uo, huo⟩ : ∃ z, putOk W H xs pW pH ys r q = z := ⟨_, rfl⟩
        obtain ⟨ux, hux⟩ : ∃ z, putX W H xs pW pH ys r q = z := ⟨_, rfl⟩
        obtain ⟨uw, huw⟩ : ∃ z, orZero (putOk W H xs pW pH ys r q) W = z := ⟨_, rfl⟩
        obtain ⟨uh, huh⟩ : ∃ z, orZero (putOk W H xs pW pH ys r q) H = z := ⟨_, rfl⟩
        have hUi : Hid (∀ (w : World) (A : Option Addr) (c : Nat) (A' : Option Addr) (c' : Nat), Rd w w.heap.size A xs.length c xs → Rd w w.heap.size A' ys.length c' ys → Calls Try.prog 9 #[chartV W H (.slice A xs.length c), chartV pW pH (.slice A' ys.length c'), .int .i64 r, .int .i64 q] w (OutChart w uw uh ux uo)) := Lib.hid fun w A c A' c' h h' => (by have := implPutPart_any W H A _ c _ xs pW pH A' _ c' _ ys r q w h h' (Nat.le_refl _) (Nat.le_refl _) hr hq; rw [huw, huh, hux, huo] at this; exact this)
        have hUs : Hid (∀ (w : World) (A : Option Addr) (c : Nat) (A' : Option Addr) (c' : Nat), Rd w w.heap.size A xs.length c xs → Rd w w.heap.size A' ys.length c' ys → Calls Try.prog 12 #[chartV W H (.slice A xs.length c), chartV pW pH (.slice A' ys.length c'), .int .i64 r, .int .i64 q] w (OutChart w uw uh ux uo)) := Lib.hid fun w A c A' c' h h' => (by have := specPutPart_any W H A _ c _ xs pW pH A' _ c' _ ys r q w h h' (Nat.le_refl _) (Nat.le_refl _); rw [huw, huh, hux, huo] at this; exact this)
        have HUB : Hid (uo = true → uw = W ∧ uh = H ∧ partOk W H ux r q pH pW = true ∧ partX W H ux r q pH pW = ys) := Lib.hid fun ht => by
          rw [huo, ht] at huw huh
          have := parts_again (huo.trans ht)
          rw [hux] at this
          exact ⟨huw.symm, huh.symm, this.1, this.2⟩
        clear huo hux huw huh
        have ebX0 := bX.cell 0
        have ebX1 := bX.cell 1
        have ebX2 := bX.cell 2
        have zbX := bX.lt
        have ebY0 := bY.cell 0
        have ebY1 := bY.cell 1
        have ebY2 := bY.cell 2
        have zbY := bY.lt
        go_wp2_with fail
        refine (hUi.out _ _ _ _ _ OX.rd OY.rd).mono ?_
        rintro e w6 ⟨A5, c5, rfl, own, hb⟩
        clear ebX0 ebX1 ebX2 zbX ebY0 ebY1 ebY2 zbY
        replace OX := OX.all hb
        replace OY := OY.all hb
        replace bX := bX.all hb
        replace bY := bY.all hb
        replace R := R.all hb HB.size
        have OA := own.mono HB.size
        clear own
        replace HB := HB.trans (hb.mono HB.size)
        clear hb
        replace OX := OX.alloc (.cells #[.int .i64 uw, .int .i64 uh, .slice A5 ux.length c5] 26)
        replace OY := OY.alloc (.cells #[.int .i64 uw, .int .i64 uh, .slice A5 ux.length c5] 26)
        replace OA := OA.alloc (.cells #[.int .i64 uw, .int .i64 uh, .slice A5 ux.length c5] 26)
        replace bX := bX.alloc (.cells #[.int .i64 uw, .int .i64 uh, .slice A5 ux.length c5] 26)
        replace bY := bY.alloc (.cells #[.int .i64 uw, .int .i64 uh, .slice A5 ux.length c5] 26)
        replace R := R.alloc HB.size (.cells #[.int .i64 uw, .int .i64 uh, .slice A5 ux.length c5] 26)
        have bA := Blk.new w6 #[.int .i64 uw, .int .i64 uh, .slice A5 ux.length c5] 26
        replace HB := HB.alloc HB.size (.cells #[.int .i64 uw, .int .i64 uh, .slice A5 ux.length c5] 26)
        have ebX0 := bX.cell 0
        have ebX1 := bX.cell 1
        have ebX2 := bX.cell 2
        have zbX := bX.lt
        have ebY0 := bY.cell 0
        have ebY1 := bY.cell 1
        have ebY2 := bY.cell 2
        have zbY := bY.lt
        have ebA0 := bA.cell 0
        have ebA1 := bA.cell 1
        have ebA2 := bA.cell 2
        have zbA := bA.lt
        go_wp2_with fail
        refine (hUs.out _ _ _ _ _ OX.rd OY.rd).mono ?_
        rintro e w7 ⟨A6, c6, rfl, own, hb⟩
        clear ebX0 ebX1 ebX2 zbX ebY0 ebY1 ebY2 zbY ebA0 ebA1 ebA2 zbA
        replace OX := OX.all hb
        replace OY := OY.all hb
        replace OA := OA.all hb
        replace bX := bX.all hb
        replace bY := bY.all hb
        replace bA := bA.all hb
        replace R := R.all hb HB.size
        have OB := own.mono HB.size
        clear own
        replace HB := HB.trans (hb.mono HB.size)
        clear hb
        replace OX := OX.alloc (.cells #[.int .i64 uw, .int .i64 uh, .slice A6 ux.length c6] 26)
        replace OY := OY.alloc (.cells #[.int .i64 uw, .int .i64 uh, .slice A6 ux.length c6] 26)
        replace OA := OA.alloc (.cells #[.int .i64 uw, .int .i64 uh, .slice A6 ux.length c6] 26)
        replace OB := OB.alloc (.cells #[.int .i64 uw, .int .i64 uh, .slice A6 ux.length c6] 26)
        replace bX := bX.alloc (.cells #[.int .i64 uw, .int .i64 uh, .slice A6 ux.length c6] 26)
        replace bY := bY.alloc (.cells #[.int .i64 uw, .int .i64 uh, .slice A6 ux.length c6] 26)
        replace bA := bA.alloc (.cells #[.int .i64 uw, .int .i64 uh, .slice A6 ux.length c6] 26)
        replace R := R.alloc HB.size (.cells #[.int .i64 uw, .int .i64 uh, .slice A6 ux.length c6] 26)
        have bB := Blk.new w7 #[.int .i64 uw, .int .i64 uh, .slice A6 ux.length c6] 26
        replace HB := HB.alloc HB.size (.cells #[.int .i64 uw, .int .i64 uh, .slice A6 ux.length c6] 26)
        clear hUi hUs
        have ebX0 := bX.cell 0
        have ebX1 := bX.cell 1
        have ebX2 := bX.cell 2
        have zbX := bX.lt
        have ebY0 := bY.cell 0
        have ebY1 := bY.cell 1
        have ebY2 := bY.cell 2
        have zbY := bY.lt
        have ebA0 := bA.cell 0
        have ebA1 := bA.cell 1
        have ebA2 := bA.cell 2
        have zbA := bA.lt
        have ebB0 := bB.cell 0
        have ebB1 := bB.cell 1
        have ebB2 := bB.cell 2
        have zbB := bB.lt
        go_upto_region 17 with fail
        go_cut [155] from 147 to 155 (fun t wx => t = .bool false ∧ Below (w7.alloc (.cells #[.int .i64 uw, .int .i64 uh, .slice A6 ux.length c6] 26)).heap.size (w7.alloc (.cells #[.int .i64 uw, .int .i64 uh, .slice A6 ux.length c6] 26)) wx)
        case first =>
          go_wp2_with fail
          refine (vChart_same uw uh _ _ _ _ _ _ _ _ ux _ OA.rd OB.rd (Nat.le_refl _) (Nat.le_refl _)).mono ?_
          rintro e wb ⟨rfl, hb⟩
          go_wp2_with fail
          go_meet
          exact ⟨rfl, hb⟩
        case rest =>
          obtain ⟨rfl, hb⟩ := hcut
          obtain ⟨w8, hw⟩ : ∃ w8, w8 = wc := ⟨_, rfl⟩
          subst hw
          clear ebX0 ebX1 ebX2 zbX ebY0 ebY1 ebY2 zbY ebA0 ebA1 ebA2 zbA ebB0 ebB1 ebB2 zbB
          replace OX := OX.all hb
          replace OY := OY.all hb
          replace OA := OA.all hb
          replace OB := OB.all hb
          replace bX := bX.all hb
          replace bY := bY.all hb
          replace bA := bA.all hb
          replace bB := bB.all hb
          replace R := R.all hb HB.size
          replace HB := HB.trans (hb.mono HB.size)
          clear hb
          clear OB bB OX bX
          cases uo
          · clear HUB hr hq
            clear OA OY bY bA
            go_wp2_with fail
            refine (drawKnotAt_any A n c w.heap.size _ R HB.size hn).mono ?_
            rintro e w9 ⟨W, H, A2, c2, xs, r, q, rfl, hsm, hr, hq, own, hb⟩
            replace R := R.all hb HB.size
            have OX := own.mono HB.size
            clear own
            replace HB := HB.trans (hb.mono HB.size)
            clear hb
            replace OX := OX.alloc (.cells #[.int .i64 W, .int .i64 H, .slice A2 xs.length c2] 26)
            replace R := R.alloc HB.size (.cells #[.int .i64 W, .int .i64 H, .slice A2 xs.length c2] 26)
            have bX := Blk.new w9 #[.int .i64 W, .int .i64 H, .slice A2 xs.length c2] 26
            replace HB := HB.alloc HB.size (.cells #[.int .i64 W, .int .i64 H, .slice A2 xs.length c2] 26)
            clear hsm
            obtain ⟨ko, hko⟩ : ∃ z, knotOk W H xs r q = z := ⟨_, rfl⟩
            obtain ⟨kv, hkv⟩ : ∃ z, knotV W H xs r q = z := ⟨_, rfl⟩
            have hKi : Hid (∀ (w : World) (A : Option Addr) (c : Nat), Rd w w.heap.size A xs.length c xs → Calls Try.prog 10 #[chartV W H (.slice A xs.length c), .int .i64 r, .int .i64 q] w (Out w (.tuple #[.int .i64 kv, .bool ko]))) := Lib.hid fun w A c h => (by have := implKnotAt_any W H A _ c _ xs r q w h (Nat.le_refl _) hr hq; rw [hko, hkv] at this; exact this)
            have hKs : Hid (∀ (w : World) (A : Option Addr) (c : Nat), Rd w w.heap.size A xs.length c xs → Calls Try.prog 14 #[chartV W H (.slice A xs.length c), .int .i64 r, .int .i64 q] w (Out w (.tuple #[.int .i64 kv, .bool ko]))) := Lib.hid fun w A c h => (by have := specKnotAt_any W H A _ c _ xs r q w h (Nat.le_refl _); rw [hko, hkv] at this; exact this)
            clear hko hkv hr hq
            have ebX0 := bX.cell 0
            have ebX1 := bX.cell 1
            have ebX2 := bX.cell 2
            have zbX := bX.lt
            go_wp2_with fail
            refine (hKi.out _ _ _ OX.rd).mono ?_
            rintro e w10 ⟨rfl, hb⟩
            clear ebX0 ebX1 ebX2 zbX
            replace OX := OX.all hb
            replace bX := bX.all hb
            replace R := R.all hb HB.size
            replace HB := HB.trans (hb.mono HB.size)
            clear hb
            have ebX0 := bX.cell 0
            have ebX1 := bX.cell 1
            have ebX2 := bX.cell 2
            have zbX := bX.lt
            go_wp2_with fail
            refine (hKs.out _ _ _ OX.rd).mono ?_
            rintro e w11 ⟨rfl, hb⟩
            clear ebX0 ebX1 ebX2 zbX
            replace OX := OX.all hb
            replace bX := bX.all hb
            replace R := R.all hb HB.size
            replace HB := HB.trans (hb.mono HB.size)
            clear hb
            clear hKi hKs
            have ebX0 := bX.cell 0
            have ebX1 := bX.cell 1
            have ebX2 := bX.cell 2
            have zbX := bX.lt
            go_upto_region 26 with fail
            go_cut [203] from 196 to 203 (fun t wx => t = .bool false ∧ Below w11.heap.size w11 wx)
            case first =>
              go_wp2_with fail
              go_meet
              exact ⟨rfl, Below.refl _ _⟩
            case rest =>
              obtain ⟨rfl, hb⟩ := hcut
              obtain ⟨w12, hw⟩ : ∃ w12, w12 = wc := ⟨_, rfl⟩
              subst hw
              clear ebX0 ebX1 ebX2 zbX
              replace OX := OX.all hb
              replace bX := bX.all hb
              replace R := R.all hb HB.size
              replace HB := HB.trans (hb.mono HB.size)
              clear hb
              clear OX bX
              go_wp2_with fail
              refine (drawPlainChart_any A n c w.heap.size _ R HB.size hn).mono ?_
              rintro e w13 ⟨a, b, d, rfl, ha, hb2, hd, hb⟩
              replace R := R.all hb HB.size
              replace HB := HB.trans (hb.mono HB.size)
              clear hb
              clear ha hb2 hd
              obtain ⟨lo, hlo⟩ : ∃ z, plainOk a b d = z := ⟨_, rfl⟩
              obtain ⟨pl, hpl⟩ : ∃ z, plainL a b d = z := ⟨_, rfl⟩
              obtain ⟨lw, hlw⟩ : ∃ z, orZero (plainOk a b d) a = z := ⟨_, rfl⟩
              obtain ⟨lh, hlh⟩ : ∃ z, orZero (plainOk a b d) b = z := ⟨_, rfl⟩
              have hLi : Hid (∀ w : World, Calls Try.prog 16 #[.int .i64 a, .int .i64 b, .int .i64 d] w (OutChart w lw lh pl lo)) := Lib.hid fun w => (by have := implPlainChart_any a b d w; rw [hlw, hlh, hpl, hlo] at this; exact this)
              have hLs : Hid (∀ w : World, Calls Try.prog 17 #[.int .i64 a, .int .i64 b, .int .i64 d] w (OutChart w lw lh pl lo)) := Lib.hid fun w => (by have := specPlainChart_any a b d w; rw [hlw, hlh, hpl, hlo] at this; exact this)
              have HLB : Hid (lo = true → lw = a ∧ lh = b ∧ goodB a b pl = true ∧ runN a b pl = a) := Lib.hid fun ht => by
                rw [hlo, ht] at hlw hlh
                have := plain_run (hlo.trans ht)
                rw [hpl] at this
                exact ⟨hlw.symm, hlh.symm, this.1, this.2⟩
              clear hlo hpl hlw hlh
              go_wp2_with fail
              refine (hLi.out _).mono ?_
              rintro e w14 ⟨A3, c3, rfl, own, hb⟩
              replace R := R.all hb HB.size
              have OA := own.mono HB.size
              clear own
              replace HB := HB.trans (hb.mono HB.size)
              clear hb
              replace OA := OA.alloc (.cells #[.int .i64 lw, .int .i64 lh, .slice A3 pl.length c3] 26)
              replace R := R.alloc HB.size (.cells #[.int .i64 lw, .int .i64 lh, .slice A3 pl.length c3] 26)
              have bA := Blk.new w14 #[.int .i64 lw, .int .i64 lh, .slice A3 pl.length c3] 26
              replace HB := HB.alloc HB.size (.cells #[.int .i64 lw, .int .i64 lh, .slice A3 pl.length c3] 26)
              have ebA0 := bA.cell 0
              have ebA1 := bA.cell 1
              have ebA2 := bA.cell 2
              have zbA := bA.lt
              go_wp2_with fail
              refine (hLs.out _).mono ?_
              rintro e w15 ⟨A4, c4, rfl, own, hb⟩
              clear ebA0 ebA1 ebA2 zbA
              replace OA := OA.all hb
              replace bA := bA.all hb
              replace R := R.all hb HB.size
              have OB := own.mono HB.size
              clear own
              replace HB := HB.trans (hb.mono HB.size)
              clear hb
              replace OA := OA.alloc (.cells #[.int .i64 lw, .int .i64 lh, .slice A4 pl.length c4] 26)
              replace OB := OB.alloc (.cells #[.int .i64 lw, .int .i64 lh, .slice A4 pl.length c4] 26)
              replace bA := bA.alloc (.cells #[.int .i64 lw, .int .i64 lh, .slice A4 pl.length c4] 26)
              replace R := R.alloc HB.size (.cells #[.int .i64 lw, .int .i64 lh, .slice A4 pl.length c4] 26)
              have bB := Blk.new w15 #[.int .i64 lw, .int .i64 lh, .slice A4 pl.length c4] 26
              replace HB := HB.alloc HB.size (.cells #[.int .i64 lw, .int .i64 lh, .slice A4 pl.length c4] 26)
              clear hLi hLs
              have ebA0 := bA.cell 0
              have ebA1 := bA.cell 1
              have ebA2 := bA.cell 2
              have zbA := bA.lt
              have ebB0 := bB.cell 0
              have ebB1 := bB.cell 1
              have ebB2 := bB.cell 2
              have zbB := bB.lt
              go_upto_region 31 with fail
              go_cut [232] from 224 to 232 (fun t wx => t = .bool false ∧ Below (w15.alloc (.cells #[.int .i64 lw, .int .i64 lh, .slice A4 pl.length c4] 26)).heap.size (w15.alloc (.cells #[.int .i64 lw, .int .i64 lh, .slice A4 pl.length c4] 26)) wx)
              case first =>
                go_wp2_with fail
                refine (vChart_same lw lh _ _ _ _ _ _ _ _ pl _ OA.rd OB.rd (Nat.le_refl _) (Nat.le_refl _)).mono ?_
                rintro e wb ⟨rfl, hb⟩
                go_wp2_with fail
                go_meet
                exact ⟨rfl, hb⟩
              case rest =>
                obtain ⟨rfl, hb⟩ := hcut
                obtain ⟨w16, hw⟩ : ∃ w16, w16 = wc := ⟨_, rfl⟩
                subst hw
                clear ebA0 ebA1 ebA2 zbA ebB0 ebB1 ebB2 zbB
                replace OA := OA.all hb
                replace OB := OB.all hb
                replace bA := bA.all hb
                replace bB := bB.all hb
                replace R := R.all hb HB.size
                replace HB := HB.trans (hb.mono HB.size)
                clear hb
                clear OB bB
                cases lo
                · go_wp2
                  go_ret
                  exact ⟨rfl, HB⟩
                · obtain ⟨e1, e2, e3, e4⟩ := HLB.out rfl
                  clear HLB
                  rw [e1, e2] at bA
                  clear e1 e2
                  obtain ⟨rr, hrr⟩ : ∃ z, runR a b pl = z := ⟨_, rfl⟩
                  have hR : Hid (∀ (w : World) (A : Option Addr) (c : Nat), Rd w w.heap.size A pl.length c pl → Calls Try.prog 18 #[chartV a b (.slice A pl.length c)] w (Out w (.tuple #[.int .i64 a, .int .i64 rr, .bool true]))) := Lib.hid fun w A c h => (by have := implLongestRun_any a b A _ c _ pl w h (Nat.le_refl _); rw [e3, e4, hrr] at this; exact this)
                  clear e3 e4 hrr
                  have ebA0 := bA.cell 0
                  have ebA1 := bA.cell 1
                  have ebA2 := bA.cell 2
                  have zbA := bA.lt
                  go_wp2_with fail
                  refine (hR.out _ _ _ OA.rd).mono ?_
                  rintro e w17 ⟨rfl, hb⟩
                  clear ebA0 ebA1 ebA2 zbA
                  replace OA := OA.all hb
                  replace bA := bA.all hb
                  replace R := R.all hb HB.size
                  replace HB := HB.trans (hb.mono HB.size)
                  clear hb
                  go_wp2
                  go_ret
                  exact ⟨ret_bool (by simp), HB⟩
          · obtain ⟨e1, e2, e3, e4⟩ := HUB.out rfl
            clear HUB
            rw [e1, e2] at bA
            clear e1 e2
            have hPi : Hid (∀ (w : World) (A : Option Addr) (c : Nat), Rd w w.heap.size A ux.length c ux → Calls Try.prog 6 #[chartV W H (.slice A ux.length c), .int .i64 r, .int .i64 q, .int .i64 pH, .int .i64 pW] w (OutChart w pW pH ys true)) := Lib.hid fun w A c h => (by have := implPartOf_any W H A _ c _ ux r q pH pW w h (Nat.le_refl _) hr hq; rw [e3, e4] at this; exact this)
            clear e3 e4 hr hq
            have ebY0 := bY.cell 0
            have ebY1 := bY.cell 1
            have ebY2 := bY.cell 2
            have zbY := bY.lt
            have ebA0 := bA.cell 0
            have ebA1 := bA.cell 1
            have ebA2 := bA.cell 2
            have zbA := bA.lt
            go_wp2_with fail
            refine (hPi.out _ _ _ OA.rd).mono ?_
            rintro e w9 ⟨A7, c7, rfl, own, hb⟩
            clear ebY0 ebY1 ebY2 zbY ebA0 ebA1 ebA2 zbA
            replace OY := OY.all hb
            replace OA := OA.all hb
            replace bY := bY.all hb
            replace bA := bA.all hb
            replace R := R.all hb HB.size
            have OC := own.mono HB.size
            clear own
            replace HB := HB.trans (hb.mono HB.size)
            clear hb
            replace OY := OY.alloc (.cells #[.int .i64 pW, .int .i64 pH, .slice A7 ys.length c7] 26)
            replace OA := OA.alloc (.cells #[.int .i64 pW, .int .i64 pH, .slice A7 ys.length c7] 26)
            replace OC := OC.alloc (.cells #[.int .i64 pW, .int .i64 pH, .slice A7 ys.length c7] 26)
            replace bY := bY.alloc (.cells #[.int .i64 pW, .int .i64 pH, .slice A7 ys.length c7] 26)
            replace bA := bA.alloc (.cells #[.int .i64 pW, .int .i64 pH, .slice A7 ys.length c7] 26)
            replace R := R.alloc HB.size (.cells #[.int .i64 pW, .int .i64 pH, .slice A7 ys.length c7] 26)
            have bC := Blk.new w9 #[.int .i64 pW, .int .i64 pH, .slice A7 ys.length c7] 26
            replace HB := HB.alloc HB.size (.cells #[.int .i64 pW, .int .i64 pH, .slice A7 ys.length c7] 26)
            clear hPi
            have ebY0 := bY.cell 0
            have ebY1 := bY.cell 1
            have ebY2 := bY.cell 2
            have zbY := bY.lt
            have ebA0 := bA.cell 0
            have ebA1 := bA.cell 1
            have ebA2 := bA.cell 2
            have zbA := bA.lt
            have ebC0 := bC.cell 0
            have ebC1 := bC.cell 1
            have ebC2 := bC.cell 2
            have zbC := bC.lt
            go_upto_region 21 with fail
            go_cut [175] from 168 to 175 (fun t wx => t = .bool false ∧ Below (w9.alloc (.cells #[.int .i64 pW, .int .i64 pH, .slice A7 ys.length c7] 26)).heap.size (w9.alloc (.cells #[.int .i64 pW, .int .i64 pH, .slice A7 ys.length c7] 26)) wx)
            case first =>
              go_wp2_with fail
              refine (vChart_same pW pH _ _ _ _ _ _ _ _ ys _ OC.rd OY.rd (Nat.le_refl _) (Nat.le_refl _)).mono ?_
              rintro e wb ⟨rfl, hb⟩
              go_wp2_with fail
              go_meet
              exact ⟨rfl, hb⟩
            case rest =>
              obtain ⟨rfl, hb⟩ := hcut
              obtain ⟨w10, hw⟩ : ∃ w10, w10 = wc := ⟨_, rfl⟩
              subst hw
              clear ebY0 ebY1 ebY2 zbY ebA0 ebA1 ebA2 zbA ebC0 ebC1 ebC2 zbC
              replace OY := OY.all hb
              replace OA := OA.all hb
              replace OC := OC.all hb
              replace bY := bY.all hb
              replace bA := bA.all hb
              replace bC := bC.all hb
              replace R := R.all hb HB.size
              replace HB := HB.trans (hb.mono HB.size)
              clear hb
              clear OA OC OY bA bC bY
              go_wp2_with fail
              refine (drawKnotAt_any A n c w.heap.size _ R HB.size hn).mono ?_
              rintro e w11 ⟨W, H, A2, c2, xs, r, q, rfl, hsm, hr, hq, own, hb⟩
              replace R := R.all hb HB.size
              have OX := own.mono HB.size
              clear own
              replace HB := HB.trans (hb.mono HB.size)
              clear hb
              replace OX := OX.alloc (.cells #[.int .i64 W, .int .i64 H, .slice A2 xs.length c2] 26)
              replace R := R.alloc HB.size (.cells #[.int .i64 W, .int .i64 H, .slice A2 xs.length c2] 26)
              have bX := Blk.new w11 #[.int .i64 W, .int .i64 H, .slice A2 xs.length c2] 26
              replace HB := HB.alloc HB.size (.cells #[.int .i64 W, .int .i64 H, .slice A2 xs.length c2] 26)
              clear hsm
              obtain ⟨ko, hko⟩ : ∃ z, knotOk W H xs r q = z := ⟨_, rfl⟩
              obtain ⟨kv, hkv⟩ : ∃ z, knotV W H xs r q = z := ⟨_, rfl⟩
              have hKi : Hid (∀ (w : World) (A : Option Addr) (c : Nat), Rd w w.heap.size A xs.length c xs → Calls Try.prog 10 #[chartV W H (.slice A xs.length c), .int .i64 r, .int .i64 q] w (Out w (.tuple #[.int .i64 kv, .bool ko]))) := Lib.hid fun w A c h => (by have := implKnotAt_any W H A _ c _ xs r q w h (Nat.le_refl _) hr hq; rw [hko, hkv] at this; exact this)
              have hKs : Hid (∀ (w : World) (A : Option Addr) (c : Nat), Rd w w.heap.size A xs.length c xs → Calls Try.prog 14 #[chartV W H (.slice A xs.length c), .int .i64 r, .int .i64 q] w (Out w (.tuple #[.int .i64 kv, .bool ko]))) := Lib.hid fun w A c h => (by have := specKnotAt_any W H A _ c _ xs r q w h (Nat.le_refl _); rw [hko, hkv] at this; exact this)
              clear hko hkv hr hq
              have ebX0 := bX.cell 0
              have ebX1 := bX.cell 1
              have ebX2 := bX.cell 2
              have zbX := bX.lt
              go_wp2_with fail
              refine (hKi.out _ _ _ OX.rd).mono ?_
              rintro e w12 ⟨rfl, hb⟩
              clear ebX0 ebX1 ebX2 zbX
              replace OX := OX.all hb
              replace bX := bX.all hb
              replace R := R.all hb HB.size
              replace HB := HB.trans (hb.mono HB.size)
              clear hb
              have ebX0 := bX.cell 0
              have ebX1 := bX.cell 1
              have ebX2 := bX.cell 2
              have zbX := bX.lt
              go_wp2_with fail
              refine (hKs.out _ _ _ OX.rd).mono ?_
              rintro e w13 ⟨rfl, hb⟩
              clear ebX0 ebX1 ebX2 zbX
              replace OX := OX.all hb
              replace bX := bX.all hb
              replace R := R.all hb HB.size
              replace HB := HB.trans (hb.mono HB.size)
              clear hb
              clear hKi hKs
              have ebX0 := bX.cell 0
              have ebX1 := bX.cell 1
              have ebX2 := bX.cell 2
              have zbX := bX.lt
              go_upto_region 26 with fail
              go_cut [203] from 196 to 203 (fun t wx => t = .bool false ∧ Below w13.heap.size w13 wx)
              case first =>
                go_wp2_with fail
                go_meet
                exact ⟨rfl, Below.refl _ _⟩
              case rest =>
                obtain ⟨rfl, hb⟩ := hcut
                obtain ⟨w14, hw⟩ : ∃ w14, w14 = wc := ⟨_, rfl⟩
                subst hw
                clear ebX0 ebX1 ebX2 zbX
                replace OX := OX.all hb
                replace bX := bX.all hb
                replace R := R.all hb HB.size
                replace HB := HB.trans (hb.mono HB.size)
                clear hb
                clear OX bX
                go_wp2_with fail
                refine (drawPlainChart_any A n c w.heap.size _ R HB.size hn).mono ?_
                rintro e w15 ⟨a, b, d, rfl, ha, hb2, hd, hb⟩
                replace R := R.all hb HB.size
                replace HB := HB.trans (hb.mono HB.size)
                clear hb
                clear ha hb2 hd
                obtain ⟨lo, hlo⟩ : ∃ z, plainOk a b d = z := ⟨_, rfl⟩
                obtain ⟨pl, hpl⟩ : ∃ z, plainL a b d = z := ⟨_, rfl⟩
                obtain ⟨lw, hlw⟩ : ∃ z, orZero (plainOk a b d) a = z := ⟨_, rfl⟩
                obtain ⟨lh, hlh⟩ : ∃ z, orZero (plainOk a b d) b = z := ⟨_, rfl⟩
                have hLi : Hid (∀ w : World, Calls Try.prog 16 #[.int .i64 a, .int .i64 b, .int .i64 d] w (OutChart w lw lh pl lo)) := Lib.hid fun w => (by have := implPlainChart_any a b d w; rw [hlw, hlh, hpl, hlo] at this; exact this)
                have hLs : Hid (∀ w : World, Calls Try.prog 17 #[.int .i64 a, .int .i64 b, .int .i64 d] w (OutChart w lw lh pl lo)) := Lib.hid fun w => (by have := specPlainChart_any a b d w; rw [hlw, hlh, hpl, hlo] at this; exact this)
                have HLB : Hid (lo = true → lw = a ∧ lh = b ∧ goodB a b pl = true ∧ runN a b pl = a) := Lib.hid fun ht => by
                  rw [hlo, ht] at hlw hlh
                  have := plain_run (hlo.trans ht)
                  rw [hpl] at this
                  exact ⟨hlw.symm, hlh.symm, this.1, this.2⟩
                clear hlo hpl hlw hlh
                go_wp2_with fail
                refine (hLi.out _).mono ?_
                rintro e w16 ⟨A3, c3, rfl, own, hb⟩
                replace R := R.all hb HB.size
                have OA := own.mono HB.size
                clear own
                replace HB := HB.trans (hb.mono HB.size)
                clear hb
                replace OA := OA.alloc (.cells #[.int .i64 lw, .int .i64 lh, .slice A3 pl.length c3] 26)
                replace R := R.alloc HB.size (.cells #[.int .i64 lw, .int .i64 lh, .slice A3 pl.length c3] 26)
                have bA := Blk.new w16 #[.int .i64 lw, .int .i64 lh, .slice A3 pl.length c3] 26
                replace HB := HB.alloc HB.size (.cells #[.int .i64 lw, .int .i64 lh, .slice A3 pl.length c3] 26)
                have ebA0 := bA.cell 0
                have ebA1 := bA.cell 1
                have ebA2 := bA.cell 2
                have zbA := bA.lt
                go_wp2_with fail
                refine (hLs.out _).mono ?_
                rintro e w17 ⟨A4, c4, rfl, own, hb⟩
                clear ebA0 ebA1 ebA2 zbA
                replace OA := OA.all hb
                replace bA := bA.all hb
                replace R := R.all hb HB.size
                have OB := own.mono HB.size
                clear own
                replace HB := HB.trans (hb.mono HB.size)
                clear hb
                replace OA := OA.alloc (.cells #[.int .i64 lw, .int .i64 lh, .slice A4 pl.length c4] 26)
                replace OB := OB.alloc (.cells #[.int .i64 lw, .int .i64 lh, .slice A4 pl.length c4] 26)
                replace bA := bA.alloc (.cells #[.int .i64 lw, .int .i64 lh, .slice A4 pl.length c4] 26)
                replace R := R.alloc HB.size (.cells #[.int .i64 lw, .int .i64 lh, .slice A4 pl.length c4] 26)
                have bB := Blk.new w17 #[.int .i64 lw, .int .i64 lh, .slice A4 pl.length c4] 26
                replace HB := HB.alloc HB.size (.cells #[.int .i64 lw, .int .i64 lh, .slice A4 pl.length c4] 26)
                clear hLi hLs
                have ebA0 := bA.cell 0
                have ebA1 := bA.cell 1
                have ebA2 := bA.cell 2
                have zbA := bA.lt
                have ebB0 := bB.cell 0
                have ebB1 := bB.cell 1
                have ebB2 := bB.cell 2
                have zbB := bB.lt
                go_upto_region 31 with fail
                go_cut [232] from 224 to 232 (fun t wx => t = .bool false ∧ Below (w17.alloc (.cells #[.int .i64 lw, .int .i64 lh, .slice A4 pl.length c4] 26)).heap.size (w17.alloc (.cells #[.int .i64 lw, .int .i64 lh, .slice A4 pl.length c4] 26)) wx)
                case first =>
                  go_wp2_with fail
                  refine (vChart_same lw lh _ _ _ _ _ _ _ _ pl _ OA.rd OB.rd (Nat.le_refl _) (Nat.le_refl _)).mono ?_
                  rintro e wb ⟨rfl, hb⟩
                  go_wp2_with fail
                  go_meet
                  exact ⟨rfl, hb⟩
                case rest =>
                  obtain ⟨rfl, hb⟩ := hcut
                  obtain ⟨w18, hw⟩ : ∃ w18, w18 = wc := ⟨_, rfl⟩
                  subst hw
                  clear ebA0 ebA1 ebA2 zbA ebB0 ebB1 ebB2 zbB
                  replace OA := OA.all hb
                  replace OB := OB.all hb
                  replace bA := bA.all hb
                  replace bB := bB.all hb
                  replace R := R.all hb HB.size
                  replace HB := HB.trans (hb.mono HB.size)
                  clear hb
                  clear OB bB
                  cases lo
                  · go_wp2
                    go_ret
                    exact ⟨rfl, HB⟩
                  · obtain ⟨e1, e2, e3, e4⟩ := HLB.out rfl
                    clear HLB
                    rw [e1, e2] at bA
                    clear e1 e2
                    obtain ⟨rr, hrr⟩ : ∃ z, runR a b pl = z := ⟨_, rfl⟩
                    have hR : Hid (∀ (w : World) (A : Option Addr) (c : Nat), Rd w w.heap.size A pl.length c pl → Calls Try.prog 18 #[chartV a b (.slice A pl.length c)] w (Out w (.tuple #[.int .i64 a, .int .i64 rr, .bool true]))) := Lib.hid fun w A c h => (by have := implLongestRun_any a b A _ c _ pl w h (Nat.le_refl _); rw [e3, e4, hrr] at this; exact this)
                    clear e3 e4 hrr
                    have ebA0 := bA.cell 0
                    have ebA1 := bA.cell 1
                    have ebA2 := bA.cell 2
                    have zbA := bA.lt
                    go_wp2_with fail
                    refine (hR.out _ _ _ OA.rd).mono ?_
                    rintro e w19 ⟨rfl, hb⟩
                    clear ebA0 ebA1 ebA2 zbA
                    replace OA := OA.all hb
                    replace bA := bA.all hb
                    replace R := R.all hb HB.size
                    replace HB := HB.trans (hb.mono HB.size)
                    clear hb
                    go_wp2
                    go_ret
                    exact ⟨ret_bool (by simp), HB⟩
      · obtain ⟨e1, e2, hpt, e3⟩ := HPB.out rfl
        clear HPB
        rw [e1, e2] at bA
        clear e1 e2
        subst e3
        obtain ⟨kp1, kp2, kp3, kp4, kp5⟩ := parts_back hpt
        obtain ⟨px, hpx⟩ : ∃ z, partX W H xs r q h k = z := ⟨_, rfl⟩
        rw [hpx] at OA bA kp1 kp2 kp3 kp5
        obtain ⟨kv, hkv⟩ : ∃ z, knotV W H xs r q = z := ⟨_, rfl⟩
        have hPP : Hid (∀ (w : World) (A : Option Addr) (c : Nat) (A' : Option Addr) (c' : Nat), Rd w w.heap.size A xs.length c xs → Rd w w.heap.size A' px.length c' px → Calls Try.prog 9 #[chartV W H (.slice A xs.length c), chartV k h (.slice A' px.length c'), .int .i64 r, .int .i64 q] w (OutChart w W H xs true)) := Lib.hid fun w A c A' c' hrd h' => (by have := implPutPart_any W H A _ c _ xs k h A' _ c' _ px r q w hrd h' (Nat.le_refl _) (Nat.le_refl _) hr hq; rw [kp1, kp2] at this; exact this)
        have hK1 : Hid (∀ (w : World) (A : Option Addr) (c : Nat), Rd w w.heap.size A px.length c px → Calls Try.prog 10 #[chartV k h (.slice A px.length c), .int .i64 0, .int .i64 0] w (Out w (.tuple #[.int .i64 kv, .bool true]))) := Lib.hid fun w A c hrd => (by have := implKnotAt_any k h A _ c _ px 0 0 w hrd (Nat.le_refl _) ⟨by decide, by decide⟩ ⟨by decide, by decide⟩; rw [kp3, kp5, hkv] at this; exact this)
        have hK2 : Hid (∀ (w : World) (A : Option Addr) (c : Nat), Rd w w.heap.size A xs.length c xs → Calls Try.prog 10 #[chartV W H (.slice A xs.length c), .int .i64 r, .int .i64 q] w (Out w (.tuple #[.int .i64 kv, .bool true]))) := Lib.hid fun w A c hrd => (by have := implKnotAt_any W H A _ c _ xs r q w hrd (Nat.le_refl _) hr hq; rw [kp4, hkv] at this; exact this)
        clear kp1 kp2 kp3 kp4 kp5 hkv hpx hpt hr hq
        have ebX0 := bX.cell 0
        have ebX1 := bX.cell 1
        have ebX2 := bX.cell 2
        have zbX := bX.lt
        have ebA0 := bA.cell 0
        have ebA1 := bA.cell 1
        have ebA2 := bA.cell 2
        have zbA := bA.lt
        go_wp2_with fail
        refine (hPP.out _ _ _ _ _ OX.rd OA.rd).mono ?_
        rintro e w5 ⟨A5, c5, rfl, own, hb⟩
        clear ebX0 ebX1 ebX2 zbX ebA0 ebA1 ebA2 zbA
        replace OX := OX.all hb
        replace OA := OA.all hb
        replace bX := bX.all hb
        replace bA := bA.all hb
        replace R := R.all hb HB.size
        have OC := own.mono HB.size
        clear own
        replace HB := HB.trans (hb.mono HB.size)
        clear hb
        replace OX := OX.alloc (.cells #[.int .i64 W, .int .i64 H, .slice A5 xs.length c5] 26)
        replace OA := OA.alloc (.cells #[.int .i64 W, .int .i64 H, .slice A5 xs.length c5] 26)
        replace OC := OC.alloc (.cells #[.int .i64 W, .int .i64 H, .slice A5 xs.length c5] 26)
        replace bX := bX.alloc (.cells #[.int .i64 W, .int .i64 H, .slice A5 xs.length c5] 26)
        replace bA := bA.alloc (.cells #[.int .i64 W, .int .i64 H, .slice A5 xs.length c5] 26)
        replace R := R.alloc HB.size (.cells #[.int .i64 W, .int .i64 H, .slice A5 xs.length c5] 26)
        have bC := Blk.new w5 #[.int .i64 W, .int .i64 H, .slice A5 xs.length c5] 26
        replace HB := HB.alloc HB.size (.cells #[.int .i64 W, .int .i64 H, .slice A5 xs.length c5] 26)
        have ebX0 := bX.cell 0
        have ebX1 := bX.cell 1
        have ebX2 := bX.cell 2
        have zbX := bX.lt
        have ebA0 := bA.cell 0
        have ebA1 := bA.cell 1
        have ebA2 := bA.cell 2
        have zbA := bA.lt
        have ebC0 := bC.cell 0
        have ebC1 := bC.cell 1
        have ebC2 := bC.cell 2
        have zbC := bC.lt
        go_wp2_with fail
        refine (hK1.out _ _ _ OA.rd).mono ?_
        rintro e w6 ⟨rfl, hb⟩
        clear ebX0 ebX1 ebX2 zbX ebA0 ebA1 ebA2 zbA ebC0 ebC1 ebC2 zbC
        replace OX := OX.all hb
        replace OA := OA.all hb
        replace OC := OC.all hb
        replace bX := bX.all hb
        replace bA := bA.all hb
        replace bC := bC.all hb
        replace R := R.all hb HB.size
        replace HB := HB.trans (hb.mono HB.size)
        clear hb
        have ebX0 := bX.cell 0
        have ebX1 := bX.cell 1
        have ebX2 := bX.cell 2
        have zbX := bX.lt
        have ebA0 := bA.cell 0
        have ebA1 := bA.cell 1
        have ebA2 := bA.cell 2
        have zbA := bA.lt
        have ebC0 := bC.cell 0
        have ebC1 := bC.cell 1
        have ebC2 := bC.cell 2
        have zbC := bC.lt
        go_wp2_with fail
        refine (hK2.out _ _ _ OX.rd).mono ?_
        rintro e w7 ⟨rfl, hb⟩
        clear ebX0 ebX1 ebX2 zbX ebA0 ebA1 ebA2 zbA ebC0 ebC1 ebC2 zbC
        replace OX := OX.all hb
        replace OA := OA.all hb
        replace OC := OC.all hb
        replace bX := bX.all hb
        replace bA := bA.all hb
        replace bC := bC.all hb
        replace R := R.all hb HB.size
        replace HB := HB.trans (hb.mono HB.size)
        clear hb
        clear hPP hK1 hK2
        have ebX0 := bX.cell 0
        have ebX1 := bX.cell 1
        have ebX2 := bX.cell 2
        have zbX := bX.lt
        have ebA0 := bA.cell 0
        have ebA1 := bA.cell 1
        have ebA2 := bA.cell 2
        have zbA := bA.lt
        have ebC0 := bC.cell 0
        have ebC1 := bC.cell 1
        have ebC2 := bC.cell 2
        have zbC := bC.lt
        go_upto_region 12 with fail
        go_cut [123] from 103 to 123 (fun t wx => t = .bool false ∧ Below w7.heap.size w7 wx)
        case first =>
          go_wp2_with fail
          refine (vChart_same W H _ _ _ _ _ _ _ _ xs _ OC.rd OX.rd (Nat.le_refl _) (Nat.le_refl _)).mono ?_
          rintro e wb ⟨rfl, hb⟩
          go_wp2_with fail
          go_meet
          exact ⟨rfl, hb⟩
        case rest =>
          obtain ⟨rfl, hb⟩ := hcut
          obtain ⟨w8, hw⟩ : ∃ w8, w8 = wc := ⟨_, rfl⟩
          subst hw
          clear ebX0 ebX1 ebX2 zbX ebA0 ebA1 ebA2 zbA ebC0 ebC1 ebC2 zbC
          replace OX := OX.all hb
          replace OA := OA.all hb
          replace OC := OC.all hb
          replace bX := bX.all hb
          replace bA := bA.all hb
          replace bC := bC.all hb
          replace R := R.all hb HB.size
          replace HB := HB.trans (hb.mono HB.size)
          clear hb
          clear OX OA OC bX bA bC
          go_wp2_with fail
          refine (drawPutPart_any A n c w.heap.size _ R HB.size hn).mono ?_
          rintro e w9 ⟨W, H, A2, c2, xs, pW, pH, A3, c3, ys, r, q, rfl, hsm, hsm2, hr, hq, own, ownB, hb⟩
          replace R := R.all hb HB.size
          have OX := own.mono HB.size
          have OY := ownB.mono HB.size
          clear own ownB
          replace HB := HB.trans (hb.mono HB.size)
          clear hb
          replace OX := OX.alloc (.cells #[.int .i64 W, .int .i64 H, .slice A2 xs.length c2] 26)
          replace OY := OY.alloc (.cells #[.int .i64 W, .int .i64 H, .slice A2 xs.length c2] 26)
          replace R := R.alloc HB.size (.cells #[.int .i64 W, .int .i64 H, .slice A2 xs.length c2] 26)
          have bX := Blk.new w9 #[.int .i64 W, .int .i64 H, .slice A2 xs.length c2] 26
          replace HB := HB.alloc HB.size (.cells #[.int .i64 W, .int .i64 H, .slice A2 xs.length c2] 26)
          replace OX := OX.alloc (.cells #[.int .i64 pW, .int .i64 pH, .slice A3 ys.length c3] 26)
          replace OY := OY.alloc (.cells #[.int .i64 pW, .int .i64 pH, .slice A3 ys.length c3] 26)
          replace bX := bX.alloc (.cells #[.int .i64 pW, .int .i64 pH, .slice A3 ys.length c3] 26)
          replace R := R.alloc HB.size (.cells #[.int .i64 pW, .int .i64 pH, .slice A3 ys.length c3] 26)
          have bY := (Blk.new (w9.alloc (.cells #[.int .i64 W, .int .i64 H, .slice A2 xs.length c2] 26)) #[.int .i64 pW, .int .i64 pH, .slice A3 ys.length c3] 26).at_ (q := w9.heap.size + 1) (by simp)
          replace HB := HB.alloc HB.size (.cells #[.int .i64 pW, .int .i64 pH, .slice A3 ys.length c3] 26)
          clear hsm hsm2
          obtain ⟨uo, huo⟩ : ∃ z, putOk W H xs pW pH ys r q = z := ⟨_, rfl⟩
          obtain ⟨ux, hux⟩ : ∃ z, putX W H xs pW pH ys r q = z := ⟨_, rfl⟩
          obtain ⟨uw, huw⟩ : ∃ z, orZero (putOk W H xs pW pH ys r q) W = z := ⟨_, rfl⟩
          obtain ⟨uh, huh⟩ : ∃ z, orZero (putOk W H xs pW pH ys r q) H = z := ⟨_, rfl⟩
          have hUi : Hid (∀ (w : World) (A : Option Addr) (c : Nat) (A' : Option Addr) (c' : Nat), Rd w w.heap.size A xs.length c xs → Rd w w.heap.size A' ys.length c' ys → Calls Try.prog 9 #[chartV W H (.slice A xs.length c), chartV pW pH (.slice A' ys.length c'), .int .i64 r, .int .i64 q] w (OutChart w uw uh ux uo)) := Lib.hid fun w A c A' c' h h' => (by have := implPutPart_any W H A _ c _ xs pW pH A' _ c' _ ys r q w h h' (Nat.le_refl _) (Nat.le_refl _) hr hq; rw [huw, huh, hux, huo] at this; exact this)
          have hUs : Hid (∀ (w : World) (A : Option Addr) (c : Nat) (A' : Option Addr) (c' : Nat), Rd w w.heap.size A xs.length c xs → Rd w w.heap.size A' ys.length c' ys → Calls Try.prog 12 #[chartV W H (.slice A xs.length c), chartV pW pH (.slice A' ys.length c'), .int .i64 r, .int .i64 q] w (OutChart w uw uh ux uo)) := Lib.hid fun w A c A' c' h h' => (by have := specPutPart_any W H A _ c _ xs pW pH A' _ c' _ ys r q w h h' (Nat.le_refl _) (Nat.le_refl _); rw [huw, huh, hux, huo] at this; exact this)
          have HUB : Hid (uo = true → uw = W ∧ uh = H ∧ partOk W H ux r q pH pW = true ∧ partX W H ux r q pH pW = ys) := Lib.hid fun ht => by
            rw [huo, ht] at huw huh
            have := parts_again (huo.trans ht)
            rw [hux] at this
            exact ⟨huw.symm, huh.symm, this.1, this.2⟩
          clear huo hux huw huh
          have ebX0 := bX.cell 0
          have ebX1 := bX.cell 1
          have ebX2 := bX.cell 2
          have zbX := bX.lt
          have ebY0 := bY.cell 0
          have ebY1 := bY.cell 1
          have ebY2 := bY.cell 2
          have zbY := bY.lt
          go_wp2_with fail
          refine (hUi.out _ _ _ _ _ OX.rd OY.rd).mono ?_
          rintro e w10 ⟨A5, c5, rfl, own, hb⟩
          clear ebX0 ebX1 ebX2 zbX ebY0 ebY1 ebY2 zbY
          replace OX := OX.all hb
          replace OY := OY.all hb
          replace bX := bX.all hb
          replace bY := bY.all hb
          replace R := R.all hb HB.size
          have OA := own.mono HB.size
          clear own
          replace HB := HB.trans (hb.mono HB.size)
          clear hb
          replace OX := OX.alloc (.cells #[.int .i64 uw, .int .i64 uh, .slice A5 ux.length c5] 26)
          replace OY := OY.alloc (.cells #[.int .i64 uw, .int .i64 uh, .slice A5 ux.length c5] 26)
          replace OA := OA.alloc (.cells #[.int .i64 uw, .int .i64 uh, .slice A5 ux.length c5] 26)
          replace bX := bX.alloc (.cells #[.int .i64 uw, .int .i64 uh, .slice A5 ux.length c5] 26)
          replace bY := bY.alloc (.cells #[.int .i64 uw, .int .i64 uh, .slice A5 ux.length c5] 26)
          replace R := R.alloc HB.size (.cells #[.int .i64 uw, .int .i64 uh, .slice A5 ux.length c5] 26)
          have bA := Blk.new w10 #[.int .i64 uw, .int .i64 uh, .slice A5 ux.length c5] 26
          replace HB := HB.alloc HB.size (.cells #[.int .i64 uw, .int .i64 uh, .slice A5 ux.length c5] 26)
          have ebX0 := bX.cell 0
          have ebX1 := bX.cell 1
          have ebX2 := bX.cell 2
          have zbX := bX.lt
          have ebY0 := bY.cell 0
          have ebY1 := bY.cell 1
          have ebY2 := bY.cell 2
          have zbY := bY.lt
          have ebA0 := bA.cell 0
          have ebA1 := bA.cell 1
          have ebA2 := bA.cell 2
          have zbA := bA.lt
          go_wp2_with fail
          refine (hUs.out _ _ _ _ _ OX.rd OY.rd).mono ?_
          rintro e w11 ⟨A6, c6, rfl, own, hb⟩
          clear ebX0 ebX1 ebX2 zbX ebY0 ebY1 ebY2 zbY ebA0 ebA1 ebA2 zbA
          replace OX := OX.all hb
          replace OY := OY.all hb
          replace OA := OA.all hb
          replace bX := bX.all hb
          replace bY := bY.all hb
          replace bA := bA.all hb
          replace R := R.all hb HB.size
          have OB := own.mono HB.size
          clear own
          replace HB := HB.trans (hb.mono HB.size)
          clear hb
          replace OX := OX.alloc (.cells #[.int .i64 uw, .int .i64 uh, .slice A6 ux.length c6] 26)
          replace OY := OY.alloc (.cells #[.int .i64 uw, .int .i64 uh, .slice A6 ux.length c6] 26)
          replace OA := OA.alloc (.cells #[.int .i64 uw, .int .i64 uh, .slice A6 ux.length c6] 26)
          replace OB := OB.alloc (.cells #[.int .i64 uw, .int .i64 uh, .slice A6 ux.length c6] 26)
          replace bX := bX.alloc (.cells #[.int .i64 uw, .int .i64 uh, .slice A6 ux.length c6] 26)
          replace bY := bY.alloc (.cells #[.int .i64 uw, .int .i64 uh, .slice A6 ux.length c6] 26)
          replace bA := bA.alloc (.cells #[.int .i64 uw, .int .i64 uh, .slice A6 ux.length c6] 26)
          replace R := R.alloc HB.size (.cells #[.int .i64 uw, .int .i64 uh, .slice A6 ux.length c6] 26)
          have bB := Blk.new w11 #[.int .i64 uw, .int .i64 uh, .slice A6 ux.length c6] 26
          replace HB := HB.alloc HB.size (.cells #[.int .i64 uw, .int .i64 uh, .slice A6 ux.length c6] 26)
          clear hUi hUs
          have ebX0 := bX.cell 0
          have ebX1 := bX.cell 1
          have ebX2 := bX.cell 2
          have zbX := bX.lt
          have ebY0 := bY.cell 0
          have ebY1 := bY.cell 1
          have ebY2 := bY.cell 2
          have zbY := bY.lt
          have ebA0 := bA.cell 0
          have ebA1 := bA.cell 1
          have ebA2 := bA.cell 2
          have zbA := bA.lt
          have ebB0 := bB.cell 0
          have ebB1 := bB.cell 1
          have ebB2 := bB.cell 2
          have zbB := bB.lt
          go_upto_region 17 with fail
          go_cut [155] from 147 to 155 (fun t wx => t = .bool false ∧ Below (w11.alloc (.cells #[.int .i64 uw, .int .i64 uh, .slice A6 ux.length c6] 26)).heap.size (w11.alloc (.cells #[.int .i64 uw, .int .i64 uh, .slice A6 ux.length c6] 26)) wx)
          case first =>
            go_wp2_with fail
            refine (vChart_same uw uh _ _ _ _ _ _ _ _ ux _ OA.rd OB.rd (Nat.le_refl _) (Nat.le_refl _)).mono ?_
            rintro e wb ⟨rfl, hb⟩
            go_wp2_with fail
            go_meet
            exact ⟨rfl, hb⟩
          case rest =>
            obtain ⟨rfl, hb⟩ := hcut
            obtain ⟨w12, hw⟩ : ∃ w12, w12 = wc := ⟨_, rfl⟩
            subst hw
            clear ebX0 ebX1 ebX2 zbX ebY0 ebY1 ebY2 zbY ebA0 ebA1 ebA2 zbA ebB0 ebB1 ebB2 zbB
            replace OX := OX.all hb
            replace OY := OY.all hb
            replace OA := OA.all hb
            replace OB := OB.all hb
            replace bX := bX.all hb
            replace bY := bY.all hb
            replace bA := bA.all hb
            replace bB := bB.all hb
            replace R := R.all hb HB.size
            replace HB := HB.trans (hb.mono HB.size)
            clear hb
            clear OB bB OX bX
            cases uo
            · clear HUB hr hq
              clear OA OY bY bA
              go_wp2_with fail
              refine (drawKnotAt_any A n c w.heap.size _ R HB.size hn).mono ?_
              rintro e w13 ⟨W, H, A2, c2, xs, r, q, rfl, hsm, hr, hq, own, hb⟩
              replace R := R.all hb HB.size
              have OX := own.mono HB.size
              clear own
              replace HB := HB.trans (hb.mono HB.size)
              clear hb
              replace OX := OX.alloc (.cells #[.int .i64 W, .int .i64 H, .slice A2 xs.length c2] 26)
              replace R := R.alloc HB.size (.cells #[.int .i64 W, .int .i64 H, .slice A2 xs.length c2] 26)
              have bX := Blk.new w13 #[.int .i64 W, .int .i64 H, .slice A2 xs.length c2] 26
              replace HB := HB.alloc HB.size (.cells #[.int .i64 W, .int .i64 H, .slice A2 xs.length c2] 26)
              clear hsm
              obtain ⟨ko, hko⟩ : ∃ z, knotOk W H xs r q = z := ⟨_, rfl⟩
              obtain ⟨kv, hkv⟩ : ∃ z, knotV W H xs r q = z := ⟨_, rfl⟩
              have hKi : Hid (∀ (w : World) (A : Option Addr) (c : Nat), Rd w w.heap.size A xs.length c xs → Calls Try.prog 10 #[chartV W H (.slice A xs.length c), .int .i64 r, .int .i64 q] w (Out w (.tuple #[.int .i64 kv, .bool ko]))) := Lib.hid fun w A c h => (by have := implKnotAt_any W H A _ c _ xs r q w h (Nat.le_refl _) hr hq; rw [hko, hkv] at this; exact this)
              have hKs : Hid (∀ (w : World) (A : Option Addr) (c : Nat), Rd w w.heap.size A xs.length c xs → Calls Try.prog 14 #[chartV W H (.slice A xs.length c), .int .i64 r, .int .i64 q] w (Out w (.tuple #[.int .i64 kv, .bool ko]))) := Lib.hid fun w A c h => (by have := specKnotAt_any W H A _ c _ xs r q w h (Nat.le_refl _); rw [hko, hkv] at this; exact this)
              clear hko hkv hr hq
              have ebX0 := bX.cell 0
              have ebX1 := bX.cell 1
              have ebX2 := bX.cell 2
              have zbX := bX.lt
              go_wp2_with fail
              refine (hKi.out _ _ _ OX.rd).mono ?_
              rintro e w14 ⟨rfl, hb⟩
              clear ebX0 ebX1 ebX2 zbX
              replace OX := OX.all hb
              replace bX := bX.all hb
              replace R := R.all hb HB.size
              replace HB := HB.trans (hb.mono HB.size)
              clear hb
              have ebX0 := bX.cell 0
              have ebX1 := bX.cell 1
              have ebX2 := bX.cell 2
              have zbX := bX.lt
              go_wp2_with fail
              refine (hKs.out _ _ _ OX.rd).mono ?_
              rintro e w15 ⟨rfl, hb⟩
              clear ebX0 ebX1 ebX2 zbX
              replace OX := OX.all hb
              replace bX := bX.all hb
              replace R := R.all hb HB.size
              replace HB := HB.trans (hb.mono HB.size)
              clear hb
              clear hKi hKs
              have ebX0 := bX.cell 0
              have ebX1 := bX.cell 1
              have ebX2 := bX.cell 2
              have zbX := bX.lt
              go_upto_region 26 with fail
              go_cut [203] from 196 to 203 (fun t wx => t = .bool false ∧ Below w15.heap.size w15 wx)
              case first =>
                go_wp2_with fail
                go_meet
                exact ⟨rfl, Below.refl _ _⟩
              case rest =>
                obtain ⟨rfl, hb⟩ := hcut
                obtain ⟨w16, hw⟩ : ∃ w16, w16 = wc := ⟨_, rfl⟩
                subst hw
                clear ebX0 ebX1 ebX2 zbX
                replace OX := OX.all hb
                replace bX := bX.all hb
                replace R := R.all hb HB.size
                replace HB := HB.trans (hb.mono HB.size)
                clear hb
                clear OX bX
                go_wp2_with fail
                refine (drawPlainChart_any A n c w.heap.size _ R HB.size hn).mono ?_
                rintro e w17 ⟨a, b, d, rfl, ha, hb2, hd, hb⟩
                replace R := R.all hb HB.size
                replace HB := HB.trans (hb.mono HB.size)
                clear hb
                clear ha hb2 hd
                obtain ⟨lo, hlo⟩ : ∃ z, plainOk a b d = z := ⟨_, rfl⟩
                obtain ⟨pl, hpl⟩ : ∃ z, plainL a b d = z := ⟨_, rfl⟩
                obtain ⟨lw, hlw⟩ : ∃ z, orZero (plainOk a b d) a = z := ⟨_, rfl⟩
                obtain ⟨lh, hlh⟩ : ∃ z, orZero (plainOk a b d) b = z := ⟨_, rfl⟩
                have hLi : Hid (∀ w : World, Calls Try.prog 16 #[.int .i64 a, .int .i64 b, .int .i64 d] w (OutChart w lw lh pl lo)) := Lib.hid fun w => (by have := implPlainChart_any a b d w; rw [hlw, hlh, hpl, hlo] at this; exact this)
                have hLs : Hid (∀ w : World, Calls Try.prog 17 #[.int .i64 a, .int .i64 b, .int .i64 d] w (OutChart w lw lh pl lo)) := Lib.hid fun w => (by have := specPlainChart_any a b d w; rw [hlw, hlh, hpl, hlo] at this; exact this)
                have HLB : Hid (lo = true → lw = a ∧ lh = b ∧ goodB a b pl = true ∧ runN a b pl = a) := Lib.hid fun ht => by
                  rw [hlo, ht] at hlw hlh
                  have := plain_run (hlo.trans ht)
                  rw [hpl] at this
                  exact ⟨hlw.symm, hlh.symm, this.1, this.2⟩
                clear hlo hpl hlw hlh
                go_wp2_with fail
                refine (hLi.out _).mono ?_
                rintro e w18 ⟨A3, c3, rfl, own, hb⟩
                replace R := R.all hb HB.size
                have OA := own.mono HB.size
                clear own
                replace HB := HB.trans (hb.mono HB.size)
                clear hb
                replace OA := OA.alloc (.cells #[.int .i64 lw, .int .i64 lh, .slice A3 pl.length c3] 26)
                replace R := R.alloc HB.size (.cells #[.int .i64 lw, .int .i64 lh, .slice A3 pl.length c3] 26)
                have bA := Blk.new w18 #[.int .i64 lw, .int .i64 lh, .slice A3 pl.length c3] 26
                replace HB := HB.alloc HB.size (.cells #[.int .i64 lw, .int .i64 lh, .slice A3 pl.length c3] 26)
                have ebA0 := bA.cell 0
                have ebA1 := bA.cell 1
                have ebA2 := bA.cell 2
                have zbA := bA.lt
                go_wp2_with fail
                refine (hLs.out _).mono ?_
                rintro e w19 ⟨A4, c4, rfl, own, hb⟩
                clear ebA0 ebA1 ebA2 zbA
                replace OA := OA.all hb
                replace bA := bA.all hb
                replace R := R.all hb HB.size
                have OB := own.mono HB.size
                clear own
                replace HB := HB.trans (hb.mono HB.size)
                clear hb
                replace OA := OA.alloc (.cells #[.int .i64 lw, .int .i64 lh, .slice A4 pl.length c4] 26)
                replace OB := OB.alloc (.cells #[.int .i64 lw, .int .i64 lh, .slice A4 pl.length c4] 26)
                replace bA := bA.alloc (.cells #[.int .i64 lw, .int .i64 lh, .slice A4 pl.length c4] 26)
                replace R := R.alloc HB.size (.cells #[.int .i64 lw, .int .i64 lh, .slice A4 pl.length c4] 26)
                have bB := Blk.new w19 #[.int .i64 lw, .int .i64 lh, .slice A4 pl.length c4] 26
                replace HB := HB.alloc HB.size (.cells #[.int .i64 lw, .int .i64 lh, .slice A4 pl.length c4] 26)
                clear hLi hLs
                have ebA0 := bA.cell 0
                have ebA1 := bA.cell 1
                have ebA2 := bA.cell 2
                have zbA := bA.lt
                have ebB0 := bB.cell 0
                have ebB1 := bB.cell 1
                have ebB2 := bB.cell 2
                have zbB := bB.lt
                go_upto_region 31 with fail
                go_cut [232] from 224 to 232 (fun t wx => t = .bool false ∧ Below (w19.alloc (.cells #[.int .i64 lw, .int .i64 lh, .slice A4 pl.length c4] 26)).heap.size (w19.alloc (.cells #[.int .i64 lw, .int .i64 lh, .slice A4 pl.length c4] 26)) wx)
                case first =>
                  go_wp2_with fail
                  refine (vChart_same lw lh _ _ _ _ _ _ _ _ pl _ OA.rd OB.rd (Nat.le_refl _) (Nat.le_refl _)).mono ?_
                  rintro e wb ⟨rfl, hb⟩
                  go_wp2_with fail
                  go_meet
                  exact ⟨rfl, hb⟩
                case rest =>
                  obtain ⟨rfl, hb⟩ := hcut
                  obtain ⟨w20, hw⟩ : ∃ w20, w20 = wc := ⟨_, rfl⟩
                  subst hw
                  clear ebA0 ebA1 ebA2 zbA ebB0 ebB1 ebB2 zbB
                  replace OA := OA.all hb
                  replace OB := OB.all hb
                  replace bA := bA.all hb
                  replace bB := bB.all hb
                  replace R := R.all hb HB.size
                  replace HB := HB.trans (hb.mono HB.size)
                  clear hb
                  clear OB bB
                  cases lo
                  · go_wp2
                    go_ret
                    exact ⟨rfl, HB⟩
                  · obtain ⟨e1, e2, e3, e4⟩ := HLB.out rfl
                    clear HLB
                    rw [e1, e2] at bA
                    clear e1 e2
                    obtain ⟨rr, hrr⟩ : ∃ z, runR a b pl = z := ⟨_, rfl⟩
                    have hR : Hid (∀ (w : World) (A : Option Addr) (c : Nat), Rd w w.heap.size A pl.length c pl → Calls Try.prog 18 #[chartV a b (.slice A pl.length c)] w (Out w (.tuple #[.int .i64 a, .int .i64 rr, .bool true]))) := Lib.hid fun w A c h => (by have := implLongestRun_any a b A _ c _ pl w h (Nat.le_refl _); rw [e3, e4, hrr] at this; exact this)
                    clear e3 e4 hrr
                    have ebA0 := bA.cell 0
                    have ebA1 := bA.cell 1
                    have ebA2 := bA.cell 2
                    have zbA := bA.lt
                    go_wp2_with fail
                    refine (hR.out _ _ _ OA.rd).mono ?_
                    rintro e w21 ⟨rfl, hb⟩
                    clear ebA0 ebA1 ebA2 zbA
                    replace OA := OA.all hb
                    replace bA := bA.all hb
                    replace R := R.all hb HB.size
                    replace HB := HB.trans (hb.mono HB.size)
                    clear hb
                    go_wp2
                    go_ret
                    exact ⟨ret_bool (by simp), HB⟩
            · obtain ⟨e1, e2, e3, e4⟩ := HUB.out rfl
              clear HUB
              rw [e1, e2] at bA
              clear e1 e2
              have hPi : Hid (∀ (w : World) (A : Option Addr) (c : Nat), Rd w w.heap.size A ux.length c ux → Calls Try.prog 6 #[chartV W H (.slice A ux.length c), .int .i64 r, .int .i64 q, .int .i64 pH, .int .i64 pW] w (OutChart w pW pH ys true)) := Lib.hid fun w A c h => (by have := implPartOf_any W H A _ c _ ux r q pH pW w h (Nat.le_refl _) hr hq; rw [e3, e4] at this; exact this)
              clear e3 e4 hr hq
              have ebY0 := bY.cell 0
              have ebY1 := bY.cell 1
              have ebY2 := bY.cell 2
              have zbY := bY.lt
              have ebA0 := bA.cell 0
              have ebA1 := bA.cell 1
              have ebA2 := bA.cell 2
              have zbA := bA.lt
              go_wp2_with fail
              refine (hPi.out _ _ _ OA.rd).mono ?_
              rintro e w13 ⟨A7, c7, rfl, own, hb⟩
              clear ebY0 ebY1 ebY2 zbY ebA0 ebA1 ebA2 zbA
              replace OY := OY.all hb
              replace OA := OA.all hb
              replace bY := bY.all hb
              replace bA := bA.all hb
              replace R := R.all hb HB.size
              have OC := own.mono HB.size
              clear own
              replace HB := HB.trans (hb.mono HB.size)
              clear hb
              replace OY := OY.alloc (.cells #[.int .i64 pW, .int .i64 pH, .slice A7 ys.length c7] 26)
              replace OA := OA.alloc (.cells #[.int .i64 pW, .int .i64 pH, .slice A7 ys.length c7] 26)
              replace OC := OC.alloc (.cells #[.int .i64 pW, .int .i64 pH, .slice A7 ys.length c7] 26)
              replace bY := bY.alloc (.cells #[.int .i64 pW, .int .i64 pH, .slice A7 ys.length c7] 26)
              replace bA := bA.alloc (.cells #[.int .i64 pW, .int .i64 pH, .slice A7 ys.length c7] 26)
              replace R := R.alloc HB.size (.cells #[.int .i64 pW, .int .i64 pH, .slice A7 ys.length c7] 26)
              have bC := Blk.new w13 #[.int .i64 pW, .int .i64 pH, .slice A7 ys.length c7] 26
              replace HB := HB.alloc HB.size (.cells #[.int .i64 pW, .int .i64 pH, .slice A7 ys.length c7] 26)
              clear hPi
              have ebY0 := bY.cell 0
              have ebY1 := bY.cell 1
              have ebY2 := bY.cell 2
              have zbY := bY.lt
              have ebA0 := bA.cell 0
              have ebA1 := bA.cell 1
              have ebA2 := bA.cell 2
              have zbA := bA.lt
              have ebC0 := bC.cell 0
              have ebC1 := bC.cell 1
              have ebC2 := bC.cell 2
              have zbC := bC.lt
              go_upto_region 21 with fail
              go_cut [175] from 168 to 175 (fun t wx => t = .bool false ∧ Below (w13.alloc (.cells #[.int .i64 pW, .int .i64 pH, .slice A7 ys.length c7] 26)).heap.size (w13.alloc (.cells #[.int .i64 pW, .int .i64 pH, .slice A7 ys.length c7] 26)) wx)
              case first =>
                go_wp2_with fail
                refine (vChart_same pW pH _ _ _ _ _ _ _ _ ys _ OC.rd OY.rd (Nat.le_refl _) (Nat.le_refl _)).mono ?_
                rintro e wb ⟨rfl, hb⟩
                go_wp2_with fail
                go_meet
                exact ⟨rfl, hb⟩
              case rest =>
                obtain ⟨rfl, hb⟩ := hcut
                obtain ⟨w14, hw⟩ : ∃ w14, w14 = wc := ⟨_, rfl⟩
                subst hw
                clear ebY0 ebY1 ebY2 zbY ebA0 ebA1 ebA2 zbA ebC0 ebC1 ebC2 zbC
                replace OY := OY.all hb
                replace OA := OA.all hb
                replace OC := OC.all hb
                replace bY := bY.all hb
                replace bA := bA.all hb
                replace bC := bC.all hb
                replace R := R.all hb HB.size
                replace HB := HB.trans (hb.mono HB.size)
                clear hb
                clear OA OC OY bA bC bY
                go_wp2_with fail
                refine (drawKnotAt_any A n c w.heap.size _ R HB.size hn).mono ?_
                rintro e w15 ⟨W, H, A2, c2, xs, r, q, rfl, hsm, hr, hq, own, hb⟩
                replace R := R.all hb HB.size
                have OX := own.mono HB.size
                clear own
                replace HB := HB.trans (hb.mono HB.size)
                clear hb
                replace OX := OX.alloc (.cells #[.int .i64 W, .int .i64 H, .slice A2 xs.length c2] 26)
                replace R := R.alloc HB.size (.cells #[.int .i64 W, .int .i64 H, .slice A2 xs.length c2] 26)
                have bX := Blk.new w15 #[.int .i64 W, .int .i64 H, .slice A2 xs.length c2] 26
                replace HB := HB.alloc HB.size (.cells #[.int .i64 W, .int .i64 H, .slice A2 xs.length c2] 26)
                clear hsm
                obtain ⟨ko, hko⟩ : ∃ z, knotOk W H xs r q = z := ⟨_, rfl⟩
                obtain ⟨kv, hkv⟩ : ∃ z, knotV W H xs r q = z := ⟨_, rfl⟩
                have hKi : Hid (∀ (w : World) (A : Option Addr) (c : Nat), Rd w w.heap.size A xs.length c xs → Calls Try.prog 10 #[chartV W H (.slice A xs.length c), .int .i64 r, .int .i64 q] w (Out w (.tuple #[.int .i64 kv, .bool ko]))) := Lib.hid fun w A c h => (by have := implKnotAt_any W H A _ c _ xs r q w h (Nat.le_refl _) hr hq; rw [hko, hkv] at this; exact this)
                have hKs : Hid (∀ (w : World) (A : Option Addr) (c : Nat), Rd w w.heap.size A xs.length c xs → Calls Try.prog 14 #[chartV W H (.slice A xs.length c), .int .i64 r, .int .i64 q] w (Out w (.tuple #[.int .i64 kv, .bool ko]))) := Lib.hid fun w A c h => (by have := specKnotAt_any W H A _ c _ xs r q w h (Nat.le_refl _); rw [hko, hkv] at this; exact this)
                clear hko hkv hr hq
                have ebX0 := bX.cell 0
                have ebX1 := bX.cell 1
                have ebX2 := bX.cell 2
                have zbX := bX.lt
                go_wp2_with fail
                refine (hKi.out _ _ _ OX.rd).mono ?_
                rintro e w16 ⟨rfl, hb⟩
                clear ebX0 ebX1 ebX2 zbX
                replace OX := OX.all hb
                replace bX := bX.all hb
                replace R := R.all hb HB.size
                replace HB := HB.trans (hb.mono HB.size)
                clear hb
                have ebX0 := bX.cell 0
                have ebX1 := bX.cell 1
                have ebX2 := bX.cell 2
                have zbX := bX.lt
                go_wp2_with fail
                refine (hKs.out _ _ _ OX.rd).mono ?_
                rintro e w17 ⟨rfl, hb⟩
                clear ebX0 ebX1 ebX2 zbX
                replace OX := OX.all hb
                replace bX := bX.all hb
                replace R := R.all hb HB.size
                replace HB := HB.trans (hb.mono HB.size)
                clear hb
                clear hKi hKs
                have ebX0 := bX.cell 0
                have ebX1 := bX.cell 1
                have ebX2 := bX.cell 2
                have zbX := bX.lt
                go_upto_region 26 with fail
                go_cut [203] from 196 to 203 (fun t wx => t = .bool false ∧ Below w17.heap.size w17 wx)
                case first =>
                  go_wp2_with fail
                  go_meet
                  exact ⟨rfl, Below.refl _ _⟩
                case rest =>
                  obtain ⟨rfl, hb⟩ := hcut
                  obtain ⟨w18, hw⟩ : ∃ w18, w18 = wc := ⟨_, rfl⟩
                  subst hw
                  clear ebX0 ebX1 ebX2 zbX
                  replace OX := OX.all hb
                  replace bX := bX.all hb
                  replace R := R.all hb HB.size
                  replace HB := HB.trans (hb.mono HB.size)
                  clear hb
                  clear OX bX
                  go_wp2_with fail
                  refine (drawPlainChart_any A n c w.heap.size _ R HB.size hn).mono ?_
                  rintro e w19 ⟨a, b, d, rfl, ha, hb2, hd, hb⟩
                  replace R := R.all hb HB.size
                  replace HB := HB.trans (hb.mono HB.size)
                  clear hb
                  clear ha hb2 hd
                  obtain ⟨lo, hlo⟩ : ∃ z, plainOk a b d = z := ⟨_, rfl⟩
                  obtain ⟨pl, hpl⟩ : ∃ z, plainL a b d = z := ⟨_, rfl⟩
                  obtain ⟨lw, hlw⟩ : ∃ z, orZero (plainOk a b d) a = z := ⟨_, rfl⟩
                  obtain ⟨lh, hlh⟩ : ∃ z, orZero (plainOk a b d) b = z := ⟨_, rfl⟩
                  have hLi : Hid (∀ w : World, Calls Try.prog 16 #[.int .i64 a, .int .i64 b, .int .i64 d] w (OutChart w lw lh pl lo)) := Lib.hid fun w => (by have := implPlainChart_any a b d w; rw [hlw, hlh, hpl, hlo] at this; exact this)
                  have hLs : Hid (∀ w : World, Calls Try.prog 17 #[.int .i64 a, .int .i64 b, .int .i64 d] w (OutChart w lw lh pl lo)) := Lib.hid fun w => (by have := specPlainChart_any a b d w; rw [hlw, hlh, hpl, hlo] at this; exact this)
                  have HLB : Hid (lo = true → lw = a ∧ lh = b ∧ goodB a b pl = true ∧ runN a b pl = a) := Lib.hid fun ht => by
                    rw [hlo, ht] at hlw hlh
                    have := plain_run (hlo.trans ht)
                    rw [hpl] at this
                    exact ⟨hlw.symm, hlh.symm, this.1, this.2⟩
                  clear hlo hpl hlw hlh
                  go_wp2_with fail
                  refine (hLi.out _).mono ?_
                  rintro e w20 ⟨A3, c3, rfl, own, hb⟩
                  replace R := R.all hb HB.size
                  have OA := own.mono HB.size
                  clear own
                  replace HB := HB.trans (hb.mono HB.size)
                  clear hb
                  replace OA := OA.alloc (.cells #[.int .i64 lw, .int .i64 lh, .slice A3 pl.length c3] 26)
                  replace R := R.alloc HB.size (.cells #[.int .i64 lw, .int .i64 lh, .slice A3 pl.length c3] 26)
                  have bA := Blk.new w20 #[.int .i64 lw, .int .i64 lh, .slice A3 pl.length c3] 26
                  replace HB := HB.alloc HB.size (.cells #[.int .i64 lw, .int .i64 lh, .slice A3 pl.length c3] 26)
                  have ebA0 := bA.cell 0
                  have ebA1 := bA.cell 1
                  have ebA2 := bA.cell 2
                  have zbA := bA.lt
                  go_wp2_with fail
                  refine (hLs.out _).mono ?_
                  rintro e w21 ⟨A4, c4, rfl, own, hb⟩
                  clear ebA0 ebA1 ebA2 zbA
                  replace OA := OA.all hb
                  replace bA := bA.all hb
                  replace R := R.all hb HB.size
                  have OB := own.mono HB.size
                  clear own
                  replace HB := HB.trans (hb.mono HB.size)
                  clear hb
                  replace OA := OA.alloc (.cells #[.int .i64 lw, .int .i64 lh, .slice A4 pl.length c4] 26)
                  replace OB := OB.alloc (.cells #[.int .i64 lw, .int .i64 lh, .slice A4 pl.length c4] 26)
                  replace bA := bA.alloc (.cells #[.int .i64 lw, .int .i64 lh, .slice A4 pl.length c4] 26)
                  replace R := R.alloc HB.size (.cells #[.int .i64 lw, .int .i64 lh, .slice A4 pl.length c4] 26)
                  have bB := Blk.new w21 #[.int .i64 lw, .int .i64 lh, .slice A4 pl.length c4] 26
                  replace HB := HB.alloc HB.size (.cells #[.int .i64 lw, .int .i64 lh, .slice A4 pl.length c4] 26)
                  clear hLi hLs
                  have ebA0 := bA.cell 0
                  have ebA1 := bA.cell 1
                  have ebA2 := bA.cell 2
                  have zbA := bA.lt
                  have ebB0 := bB.cell 0
                  have ebB1 := bB.cell 1
                  have ebB2 := bB.cell 2
                  have zbB := bB.lt
                  go_upto_region 31 with fail
                  go_cut [232] from 224 to 232 (fun t wx => t = .bool false ∧ Below (w21.alloc (.cells #[.int .i64 lw, .int .i64 lh, .slice A4 pl.length c4] 26)).heap.size (w21.alloc (.cells #[.int .i64 lw, .int .i64 lh, .slice A4 pl.length c4] 26)) wx)
                  case first =>
                    go_wp2_with fail
                    refine (vChart_same lw lh _ _ _ _ _ _ _ _ pl _ OA.rd OB.rd (Nat.le_refl _) (Nat.le_refl _)).mono ?_
                    rintro e wb ⟨rfl, hb⟩
                    go_wp2_with fail
                    go_meet
                    exact ⟨rfl, hb⟩
                  case rest =>
                    obtain ⟨rfl, hb⟩ := hcut
                    obtain ⟨w22, hw⟩ : ∃ w22, w22 = wc := ⟨_, rfl⟩
                    subst hw
                    clear ebA0 ebA1 ebA2 zbA ebB0 ebB1 ebB2 zbB
                    replace OA := OA.all hb
                    replace OB := OB.all hb
                    replace bA := bA.all hb
                    replace bB := bB.all hb
                    replace R := R.all hb HB.size
                    replace HB := HB.trans (hb.mono HB.size)
                    clear hb
                    clear OB bB
                    cases lo
                    · go_wp2
                      go_ret
                      exact ⟨rfl, HB⟩
                    · obtain ⟨e1, e2, e3, e4⟩ := HLB.out rfl
                      clear HLB
                      rw [e1, e2] at bA
                      clear e1 e2
                      obtain ⟨rr, hrr⟩ : ∃ z, runR a b pl = z := ⟨_, rfl⟩
                      have hR : Hid (∀ (w : World) (A : Option Addr) (c : Nat), Rd w w.heap.size A pl.length c pl → Calls Try.prog 18 #[chartV a b (.slice A pl.length c)] w (Out w (.tuple #[.int .i64 a, .int .i64 rr, .bool true]))) := Lib.hid fun w A c h => (by have := implLongestRun_any a b A _ c _ pl w h (Nat.le_refl _); rw [e3, e4, hrr] at this; exact this)
                      clear e3 e4 hrr
                      have ebA0 := bA.cell 0
                      have ebA1 := bA.cell 1
                      have ebA2 := bA.cell 2
                      have zbA := bA.lt
                      go_wp2_with fail
                      refine (hR.out _ _ _ OA.rd).mono ?_
                      rintro e w23 ⟨rfl, hb⟩
                      clear ebA0 ebA1 ebA2 zbA
                      replace OA := OA.all hb
                      replace bA := bA.all hb
                      replace R := R.all hb HB.size
                      replace HB := HB.trans (hb.mono HB.size)
                      clear hb
                      go_wp2
                      go_ret
                      exact ⟨ret_bool (by simp), HB⟩
  · go_enter Try.func3, Try.ntmps3
    go_wp2_with fail
    refine (vBig_eq A n c _ (by omega) true (by simp; omega)).mono ?_
    rintro e w' ⟨rfl, rfl⟩
    go_wp2
    go_ret
    exact ⟨rfl, HB⟩
end Go.Proofs.Ytbhdgpkfighjfaa
