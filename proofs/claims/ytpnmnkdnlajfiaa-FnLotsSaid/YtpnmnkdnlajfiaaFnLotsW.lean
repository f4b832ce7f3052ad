/- The walk of FnLots. No condition. -/
import Derived.Test.YtpnmnkdnlajfiaaDrawsL2
import Derived.Test.YtpnmnkdnlajfiaaLotsFn2
import Derived.Test.YtpnmnkdnlajfiaaFewS
import Derived.Test.YtpnmnkdnlajfiaaAssign
import Derived.Test.YtpnmnkdnlajfiaaGreatest
import Derived.Deep.CutRange
namespace Go.Proofs.Ytpnmnkdnlajfiaa
open Go.RowKit

set_option maxRecDepth 100000 in
set_option maxHeartbeats 16000000 in
theorem fnLots_walk (w : World) (A : Option Addr) (n c : Nat) (R : RdB w w.heap.size A n c) : Calls Try.prog 3 #[.slice A n c] w fun e w' => e = .returned (.bool true) ∧ Below w.heap.size w w' := by
  have hcap := R.cap
  have hmax := R.max
  unfold maxLen at hmax
  have HB := Below.refl w.heap.size w
  by_cases hn : n ≤ 65536
  rotate_left
  · go_enter Try.func3, Try.ntmps3
    go_wp2_with fail
    refine (vBig_eq A n c _ (by omega) true (by simp; omega)).mono ?_
    rintro e w' ⟨rfl, rfl⟩
    go_wp2
    go_ret
    exact ⟨rfl, HB⟩
  go_enter Try.func3, Try.ntmps3
  go_wp2_with fail
  refine (vBig_eq A n c _ (by omega) false (by simp; omega)).mono ?_
  rintro e w' ⟨rfl, rfl⟩
  go_wp2_with fail
  refine (drawFirstAssignment_any A n c w.heap.size _ R HB.size hn).mono ?_
  rintro e w1 ⟨W, H, A2, c2, xs, f, A3, c3, ls, rfl, hsm, hf, hll, own, own2, hb⟩
  replace R := R.all hb HB.size
  have OX := own.mono HB.size
  clear own
  have OY := own2.mono HB.size
  clear own2
  replace HB := HB.trans (hb.mono HB.size)
  clear hb
  replace OX := OX.alloc (.cells #[.int .i64 W, .int .i64 H, .slice A2 xs.length c2] 26)
  replace OY := OY.alloc (.cells #[.int .i64 W, .int .i64 H, .slice A2 xs.length c2] 26)
  replace R := R.alloc HB.size (.cells #[.int .i64 W, .int .i64 H, .slice A2 xs.length c2] 26)
  have bX := Blk.new w1 #[.int .i64 W, .int .i64 H, .slice A2 xs.length c2] 26
  replace HB := HB.alloc HB.size (.cells #[.int .i64 W, .int .i64 H, .slice A2 xs.length c2] 26)
  obtain ⟨L, hL⟩ : ∃ vv, srL (frst W H xs f ls) = vv := ⟨_, rfl⟩
  obtain ⟨ok, hok⟩ : ∃ vv, (frst W H xs f ls).isSome = vv := ⟨_, rfl⟩
  obtain ⟨fv, hfv⟩ : ∃ vv, fewV (fewO W H xs f ls) = vv := ⟨_, rfl⟩
  have hok2 : (fewO W H xs f ls).isSome = ok := by rw [← frst_few]; exact hok
  have hFi : Hid (∀ (w : World) (A : Option Addr) (c : Nat) (A' : Option Addr) (c' : Nat), Rd w w.heap.size A xs.length c xs → Rd w w.heap.size A' ls.length c' ls → Calls Try.prog 6 #[chartV W H (.slice A xs.length c), .int .i64 f, .slice A' ls.length c'] w (OutInts w L ok)) := Lib.hid fun w A c A' c' h h' => (by have := implFirstAssignment_any W H A _ c _ xs f A' _ c' _ ls w h (Nat.le_refl _) h' (Nat.le_refl _); rw [hL, hok] at this; exact this)
  have hNi : Hid (∀ (w : World) (A : Option Addr) (c : Nat) (A' : Option Addr) (c' : Nat), Rd w w.heap.size A xs.length c xs → Rd w w.heap.size A' ls.length c' ls → Calls Try.prog 9 #[chartV W H (.slice A xs.length c), .int .i64 f, .slice A' ls.length c'] w (Out w (.tuple #[.int .i64 fv, .bool ok]))) := Lib.hid fun w A c A' c' h h' => (by have := implFewestLots_any W H A _ c _ xs f A' _ c' _ ls w h (Nat.le_refl _) h' (Nat.le_refl _); rw [hfv, hok2] at this; exact this)
  have hFs : Hid (∀ (w : World) (A : Option Addr) (c : Nat) (A' : Option Addr) (c' : Nat), Rd w w.heap.size A xs.length c xs → Rd w w.heap.size A' ls.length c' ls → Calls Try.prog 7 #[chartV W H (.slice A xs.length c), .int .i64 f, .slice A' ls.length c'] w (OutInts w L ok)) := Lib.hid fun w A c A' c' h h' => (by have := specFirstAssignment_any W H A _ c _ xs f A' _ c' _ ls w h (Nat.le_refl _) h' (Nat.le_refl _); rw [hL, hok] at this; exact this)
  have hNs : Hid (∀ (w : World) (A : Option Addr) (c : Nat) (A' : Option Addr) (c' : Nat), Rd w w.heap.size A xs.length c xs → Rd w w.heap.size A' ls.length c' ls → Calls Try.prog 10 #[chartV W H (.slice A xs.length c), .int .i64 f, .slice A' ls.length c'] w (Out w (.tuple #[.int .i64 fv, .bool ok]))) := Lib.hid fun w A c A' c' h h' => (by have := specFewestLots_any W H A _ c _ xs f A' _ c' _ ls w h (Nat.le_refl _) h' (Nat.le_refl _); rw [hfv, hok2] at this; exact this)
  have HT : Hid (ok = true → ∃ (r : List Nat) (nf : Nat), L = upI r ∧ (∀ (w : World) (A : Option Addr) (c : Nat) (A' : Option Addr) (c' : Nat) (A3 : Option Addr) (c3 : Nat), Rd w w.heap.size A xs.length c xs → Rd w w.heap.size A' ls.length c' ls → Rd w w.heap.size A3 L.length c3 L → Calls Try.prog 11 #[chartV W H (.slice A xs.length c), .int .i64 f, .slice A' ls.length c', .slice A3 L.length c3] w (Out w (.tuple #[.bool true, .bool true]))) ∧ fv = (nf : Int) ∧ nf ≤ dif12 r ∧ nf ≤ L.length ∧ L.length ≤ 64) := Lib.hid fun hh => by
    obtain ⟨r, nf, h1, h2, h3, h4, h5, h6, h7⟩ := lots_top (hok.trans hh)
    rw [hL] at h1
    rw [hfv] at h4
    refine ⟨r, nf, h1, fun w A c A' c' A3 c3 h h' h3' => ?_, h4, h5, by rw [h1, upI_len]; exact h6, by rw [h1, upI_len]; exact h7⟩
    have := implIsAssignment_any W H A _ c _ xs f A' A3 _ c' _ _ c3 _ ls L w h (Nat.le_refl _) h' h3' (Nat.le_refl _) (Nat.le_refl _)
    rw [h3, show isAsg W H xs f ls L = true by rw [h1]; exact h2] at this
    exact this
  clear hL hok hok2 hfv hsm hf hll
  have hgg : (ok != ok) = false := by simp
  have ebX0 := bX.cell 0
  have ebX1 := bX.cell 1
  have ebX2 := bX.cell 2
  have zbX := bX.lt
  go_wp2_with fail
  refine (hFi.out _ _ _ _ _ OX.rd OY.rd).mono ?_
  rintro e w2 ⟨A4, c4, rfl, own, hb⟩
  clear ebX0 ebX1 ebX2 zbX
  replace OX := OX.all hb
  replace OY := OY.all hb
  replace bX := bX.all hb
  replace R := R.all hb HB.size
  have OL := own.mono HB.size
  clear own
  replace HB := HB.trans (hb.mono HB.size)
  clear hb
  have ebX0 := bX.cell 0
  have ebX1 := bX.cell 1
  have ebX2 := bX.cell 2
  have zbX := bX.lt
  go_wp2_with fail
  refine (hFs.out _ _ _ _ _ OX.rd OY.rd).mono ?_
  rintro e w3 ⟨A5, c5, rfl, own, hb⟩
  clear ebX0 ebX1 ebX2 zbX
  replace OX := OX.all hb
  replace OY := OY.all hb
  replace OL := OL.all hb
  replace bX := bX.all hb
  replace R := R.all hb HB.size
  have OM := own.mono HB.size
  clear own
  replace HB := HB.trans (hb.mono HB.size)
  clear hb
  clear hFi hFs
  have ebX0 := bX.cell 0
  have ebX1 := bX.cell 1
  have ebX2 := bX.cell 2
  have zbX := bX.lt
  go_wp2_with fail
  refine (vInts_low _ _ _ _ _ _ _ _ L _ OL.rd OM.rd).mono ?_
  rintro e w4 ⟨rfl, hb⟩
  clear ebX0 ebX1 ebX2 zbX
  replace OX := OX.all hb
  replace OY := OY.all hb
  replace OL := OL.all hb
  replace OM := OM.all hb
  replace bX := bX.all hb
  replace R := R.all hb HB.size
  replace HB := HB.trans (hb.mono HB.size)
  clear hb
  clear OM
  have ebX0 := bX.cell 0
  have ebX1 := bX.cell 1
  have ebX2 := bX.cell 2
  have zbX := bX.lt
  go_wp2_with fail
  refine (hNi.out _ _ _ _ _ OX.rd OY.rd).mono ?_
  rintro e w5 ⟨rfl, hb⟩
  clear ebX0 ebX1 ebX2 zbX
  replace OX := OX.all hb
  replace OY := OY.all hb
  replace OL := OL.all hb
  replace bX := bX.all hb
  replace R := R.all hb HB.size
  replace HB := HB.trans (hb.mono HB.size)
  clear hb
  have ebX0 := bX.cell 0
  have ebX1 := bX.cell 1
  have ebX2 := bX.cell 2
  have zbX := bX.lt
  go_wp2_with fail
  refine (hNs.out _ _ _ _ _ OX.rd OY.rd).mono ?_
  rintro e w6 ⟨rfl, hb⟩
  clear ebX0 ebX1 ebX2 zbX
  replace OX := OX.all hb
  replace OY := OY.all hb
  replace OL := OL.all hb
  replace bX := bX.all hb
  replace R := R.all hb HB.size
  replace HB := HB.trans (hb.mono HB.size)
  clear hb
  clear hNi hNs
  go_upto_if 91 with fail
  go_cut [] from 92 to 133 (fun wx => RdB wx w.heap.size A n c ∧ Below w.heap.size w wx)
  case first =>
    clear hgg
    cases ok
    case false =>
      clear HT
      go_wp2
      go_meet
      exact ⟨R, HB⟩
    case true =>
      obtain ⟨r, nf, hLr, hc, rfl, hd, hnl, hl64⟩ := HT.out rfl
      have HC := Lib.hid hc
      have HLR := Lib.hid hLr
      clear HT hc hLr
      have ebX0 := bX.cell 0
      have ebX1 := bX.cell 1
      have ebX2 := bX.cell 2
      have zbX := bX.lt
      go_wp2_with fail
      refine (HC.out _ _ _ _ _ _ _ OX.rd OY.rd OL.rd).mono ?_
      rintro e w7 ⟨rfl, hb⟩
      clear ebX0 ebX1 ebX2 zbX
      replace OX := OX.all hb
      replace OY := OY.all hb
      replace OL := OL.all hb
      replace bX := bX.all hb
      replace R := R.all hb HB.size
      replace HB := HB.trans (hb.mono HB.size)
      clear hb
      clear HC
      clear OX OY bX
      go_wp2
      go_loopw [16, 17] (fun s16 s17 wr => ∃ q d : Nat, q ≤ L.length ∧ s17 = .int .i64 q ∧ s16 = .int .i64 d ∧ Hid (d = dif12 (r.take q)) ∧ d ≤ q ∧ RdB wr w.heap.size A n c ∧ Own wr w.heap.size (.slice A4 L.length c4) L ∧ Hid (Below w.heap.size w wr)) (fun _ s17 _ => L.length - (intOf s17).toNat)
      case atStart => exact ⟨0, 0, Nat.zero_le _, rfl, rfl, Lib.hid (by simp [dif12]), Nat.le_refl _, R, OL, Lib.hid HB⟩
      case round =>
        clear R OL HB
        obtain ⟨q, d, hq, rfl, rfl, HD, hdq, R, OL, HB_⟩ := hrel
        have HB := HB_.out
        clear HB_
        by_cases hlt : q < L.length
        · have RL := OL.rd
          have hrl : r.length = L.length := by rw [HLR.out, upI_len]
          obtain ⟨x, hx⟩ : ∃ x, r[q]? = some x := ⟨r[q]'(by omega), List.getElem?_eq_getElem (by omega)⟩
          obtain ⟨b, off, y, rfl, _, hc, _, _, HY⟩ := RL.at hlt
          obtain rfl : y = (x : Int) := HY.out.symm.trans (by rw [HLR.out]; exact upI_get hx)
          obtain ⟨dm, hdm⟩ : ∃ dm, decide (x ∈ r.take q) = dm := ⟨_, rfl⟩
          have hd2 : decide ((x : Int) ∈ L.take q) = dm := by rw [HLR.out, upI_take, ← hdm]; simp only [mem_upI]
          have RH := RL.headI (q := q) (by omega)
          have hqI : (q : Int) < (L.length : Int) := by omega
          have hcc := RL.cap
          have hmm := RL.max
          unfold maxLen at hmm
          have e : r.take (q + 1) = r.take q ++ [x] := by rw [List.take_add_one, hx]; rfl
          clear hrl
          cases dm with
          | true =>
            have HD2 := Lib.hid (show d = dif12 (r.take (q + 1)) by rw [e, dif_snoc, if_pos (of_decide_eq_true hdm)]; exact HD.out)
            have HDM := Lib.hid hd2
            clear HD hdm hd2 e hx RL
            go_wp2
            go_quiet ((go_at_call 12; exact quiet_same (vHas_eq _ _ _ _ _ _ _ true (RH.drewN _) HDM)))
            have HB3 := Lib.hid (belowN HB nq)
            have R3 := R.all (low_drewN wr nq) HB.size
            have OL3 := OL.all (low_drewN wr nq)
            clear HB RH hc R OL
            generalize wr.drewN nq = wq at *
            go_wp2
            go_roundw
            case rel => exact ⟨q + 1, d, hlt, by go_num, rfl, HD2, by omega, R3, OL3, HB3⟩
            case measure => simp [intOf]; omega
          | false =>
            have HD2 := Lib.hid (show d + 1 = dif12 (r.take (q + 1)) by rw [e, dif_snoc, if_neg (of_decide_eq_false hdm), ← HD.out])
            have HDM := Lib.hid hd2
            clear HD hdm hd2 e hx RL
            go_wp2
            go_quiet ((go_at_call 12; exact quiet_same (vHas_eq _ _ _ _ _ _ _ false (RH.drewN _) HDM)))
            have HB3 := Lib.hid (belowN HB nq)
            have R3 := R.all (low_drewN wr nq) HB.size
            have OL3 := OL.all (low_drewN wr nq)
            clear HB RH hc R OL
            generalize wr.drewN nq = wq at *
            go_wp2
            go_roundw
            case rel => exact ⟨q + 1, d + 1, hlt, by go_num, by go_num, HD2, by omega, R3, OL3, HB3⟩
            case measure => simp [intOf]; omega
        · have hdF : nf ≤ d := by
            rw [HD.out, List.take_of_length_le (by have : r.length = L.length := by rw [HLR.out, upI_len]
                                                   omega)]
            exact hd
          have h1 : ¬ ((d : Int) < (nf : Int)) := by omega
          have h2 : ¬ ((L.length : Int) < (nf : Int)) := by omega
          have h3 : ¬ ((q : Int) < (L.length : Int)) := by omega
          clear HD HLR hdF hd
          go_wp2
          go_meet
          exact ⟨R, HB⟩
  case rest =>
    clear HT hgg
    clear OX OY OL bX
    clear R HB
    obtain ⟨R, HB⟩ := hcut
    go_wp2_with fail
    refine (drawIsAssignment_any A n c w.heap.size _ R HB.size hn).mono ?_
    rintro e w7 ⟨W2, H2, A6, c6, us, g, A7, c7, lt, A8, c8, az, rfl, hsm, hf, hll, hal, own, own2, own3, hb⟩
    replace R := R.all hb HB.size
    have OU := own.mono HB.size
    clear own
    have OV := own2.mono HB.size
    clear own2
    have OA := own3.mono HB.size
    clear own3
    replace HB := HB.trans (hb.mono HB.size)
    clear hb
    replace OU := OU.alloc (.cells #[.int .i64 W2, .int .i64 H2, .slice A6 us.length c6] 26)
    replace OV := OV.alloc (.cells #[.int .i64 W2, .int .i64 H2, .slice A6 us.length c6] 26)
    replace OA := OA.alloc (.cells #[.int .i64 W2, .int .i64 H2, .slice A6 us.length c6] 26)
    replace R := R.alloc HB.size (.cells #[.int .i64 W2, .int .i64 H2, .slice A6 us.length c6] 26)
    have bU := Blk.new w7 #[.int .i64 W2, .int .i64 H2, .slice A6 us.length c6] 26
    replace HB := HB.alloc HB.size (.cells #[.int .i64 W2, .int .i64 H2, .slice A6 us.length c6] 26)
    obtain ⟨y1, hy1⟩ : ∃ vv, isAsg W2 H2 us g lt az = vv := ⟨_, rfl⟩
    obtain ⟨y2, hy2⟩ : ∃ vv, askOk W2 H2 us g lt = vv := ⟨_, rfl⟩
    have hIi : Hid (∀ (w : World) (A : Option Addr) (c : Nat) (A' : Option Addr) (c' : Nat) (A3 : Option Addr) (c3 : Nat), Rd w w.heap.size A us.length c us → Rd w w.heap.size A' lt.length c' lt → Rd w w.heap.size A3 az.length c3 az → Calls Try.prog 11 #[chartV W2 H2 (.slice A us.length c), .int .i64 g, .slice A' lt.length c', .slice A3 az.length c3] w (Out w (.tuple #[.bool y1, .bool y2]))) := Lib.hid fun w A c A' c' A3 c3 h h' h3 => (by have := implIsAssignment_any W2 H2 A _ c _ us g A' A3 _ c' _ _ c3 _ lt az w h (Nat.le_refl _) h' h3 (Nat.le_refl _) (Nat.le_refl _); rw [hy1, hy2] at this; exact this)
    have hIs : Hid (∀ (w : World) (A : Option Addr) (c : Nat) (A' : Option Addr) (c' : Nat) (A3 : Option Addr) (c3 : Nat), Rd w w.heap.size A us.length c us → Rd w w.heap.size A' lt.length c' lt → Rd w w.heap.size A3 az.length c3 az → Calls Try.prog 14 #[chartV W2 H2 (.slice A us.length c), .int .i64 g, .slice A' lt.length c', .slice A3 az.length c3] w (Out w (.tuple #[.bool y1, .bool y2]))) := Lib.hid fun w A c A' c' A3 c3 h h' h3 => (by have := specIsAssignment_any W2 H2 A _ c _ us g A' A3 _ c' _ _ c3 _ lt az w h (Nat.le_refl _) h' h3 (Nat.le_refl _) (Nat.le_refl _); rw [hy1, hy2] at this; exact this)
    clear hy1 hy2 hsm hf hll hal
    have hg1 : (y1 != y1) = false := by simp
    have hg2 : (y2 != y2) = false := by simp
    have ebU0 := bU.cell 0
    have ebU1 := bU.cell 1
    have ebU2 := bU.cell 2
    have zbU := bU.lt
    go_wp2_with fail
    refine (hIi.out _ _ _ _ _ _ _ OU.rd OV.rd OA.rd).mono ?_
    rintro e w8 ⟨rfl, hb⟩
    clear ebU0 ebU1 ebU2 zbU
    replace OU := OU.all hb
    replace OV := OV.all hb
    replace OA := OA.all hb
    replace bU := bU.all hb
    replace R := R.all hb HB.size
    replace HB := HB.trans (hb.mono HB.size)
    clear hb
    have ebU0 := bU.cell 0
    have ebU1 := bU.cell 1
    have ebU2 := bU.cell 2
    have zbU := bU.lt
    go_wp2_with fail
    refine (hIs.out _ _ _ _ _ _ _ OU.rd OV.rd OA.rd).mono ?_
    rintro e w9 ⟨rfl, hb⟩
    clear ebU0 ebU1 ebU2 zbU
    replace OU := OU.all hb
    replace OV := OV.all hb
    replace OA := OA.all hb
    replace bU := bU.all hb
    replace R := R.all hb HB.size
    replace HB := HB.trans (hb.mono HB.size)
    clear hb
    clear hIi hIs
    clear OU OV OA bU
    go_wp2_with fail
    refine (drawGreatestArea_any A n c w.heap.size _ R HB.size hn).mono ?_
    rintro e w10 ⟨W3, H3, A9, c9, vs, rfl, hsm, own, hb⟩
    replace R := R.all hb HB.size
    have OV := own.mono HB.size
    clear own
    replace HB := HB.trans (hb.mono HB.size)
    clear hb
    replace OV := OV.alloc (.cells #[.int .i64 W3, .int .i64 H3, .slice A9 vs.length c9] 26)
    replace R := R.alloc HB.size (.cells #[.int .i64 W3, .int .i64 H3, .slice A9 vs.length c9] 26)
    have bV := Blk.new w10 #[.int .i64 W3, .int .i64 H3, .slice A9 vs.length c9] 26
    replace HB := HB.alloc HB.size (.cells #[.int .i64 W3, .int .i64 H3, .slice A9 vs.length c9] 26)
    clear hg1 hg2
    obtain ⟨ga, hga⟩ : ∃ vv, greatA W3 H3 vs = vv := ⟨_, rfl⟩
    obtain ⟨gn, hgn⟩ : ∃ vv, greatN W3 H3 vs = vv := ⟨_, rfl⟩
    obtain ⟨gb, hgb⟩ : ∃ vv, goodB W3 H3 vs = vv := ⟨_, rfl⟩
    have hGi : Hid (∀ (w : World) (A : Option Addr) (c : Nat), Rd w w.heap.size A vs.length c vs → Calls Try.prog 16 #[chartV W3 H3 (.slice A vs.length c)] w (Out w (.tuple #[.int .i64 ga, .int .i64 gn, .bool gb]))) := Lib.hid fun w A c h => (by have := implGreatestArea_any W3 H3 A _ c _ vs w h (Nat.le_refl _); rw [hga, hgn, hgb] at this; exact this)
    have hGs : Hid (∀ (w : World) (A : Option Addr) (c : Nat), Rd w w.heap.size A vs.length c vs → Calls Try.prog 17 #[chartV W3 H3 (.slice A vs.length c)] w (Out w (.tuple #[.int .i64 ga, .int .i64 gn, .bool gb]))) := Lib.hid fun w A c h => (by have := specGreatestArea_any W3 H3 A _ c _ vs w h (Nat.le_refl _); rw [hga, hgn, hgb] at this; exact this)
    clear hga hgn hgb hsm
    have ebV0 := bV.cell 0
    have ebV1 := bV.cell 1
    have ebV2 := bV.cell 2
    have zbV := bV.lt
    go_wp2_with fail
    refine (hGi.out _ _ _ OV.rd).mono ?_
    rintro e w11 ⟨rfl, hb⟩
    clear ebV0 ebV1 ebV2 zbV
    replace OV := OV.all hb
    replace bV := bV.all hb
    replace R := R.all hb HB.size
    replace HB := HB.trans (hb.mono HB.size)
    clear hb
    have ebV0 := bV.cell 0
    have ebV1 := bV.cell 1
    have ebV2 := bV.cell 2
    have zbV := bV.lt
    go_wp2_with fail
    refine (hGs.out _ _ _ OV.rd).mono ?_
    rintro e w12 ⟨rfl, hb⟩
    clear ebV0 ebV1 ebV2 zbV
    replace OV := OV.all hb
    replace bV := bV.all hb
    replace R := R.all hb HB.size
    replace HB := HB.trans (hb.mono HB.size)
    clear hb
    clear hGi hGs
    go_wp2
    go_ret
    exact ⟨ret_bool (by simp), HB⟩
end Go.Proofs.Ytpnmnkdnlajfiaa
