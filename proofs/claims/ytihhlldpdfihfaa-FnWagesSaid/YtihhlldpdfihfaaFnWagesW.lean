/- The walk of FnWages. No condition. -/
import Derived.Test.YtihhlldpdfihfaaDraws14w
import Derived.Test.YtihhlldpdfihfaaWagesFn
import Derived.Test.YtihhlldpdfihfaaPayS
import Derived.Test.YtihhlldpdfihfaaKnots14
import Derived.Deep.CutRange
import Derived.Deep.CutBlock
import Derived.Deep.RegionHeld3
namespace Go.Proofs.Ytihhlldpdfihfaa
open Go.RowKit

theorem between_nn (r : RatesR) (xs : List WorkSheetR) (v f t : Int) : 0 ≤ (between14 r xs v f t).1 := by
  unfold between14
  split
  · next h => exact (paid_bd h.1 h.2.1 v f t).1
  · exact Int.le_refl 0
set_option maxRecDepth 100000 in
set_option maxHeartbeats 16000000 in
theorem fnWages_walk (w : World) (A : Option Addr) (n c : Nat) (R : RdB w w.heap.size A n c) : Calls Try.prog 3 #[.slice A n c] w fun e w' => e = .returned (.bool true) ∧ Below w.heap.size w w' := by
  have hcap := R.cap
  have hmax := R.max
  unfold maxLen at hmax
  have HB := Below.refl w.heap.size w
  by_cases hn : n ≤ 65536
  rotate_left
  · go_enter Try.func3, Try.ntmps3
    go_wp2_with fail
    refine (rBig_eq A n c _ (by omega) true (by simp; omega)).mono ?_
    rintro e w' ⟨rfl, rfl⟩
    go_wp2
    go_ret
    exact ⟨rfl, HB⟩
  go_enter Try.func3, Try.ntmps3
  go_wp2_with fail
  refine (rBig_eq A n c _ (by omega) false (by simp; omega)).mono ?_
  rintro e w' ⟨rfl, rfl⟩
  go_wp2_with fail
  refine (drawPayRoll_any A n c w.heap.size _ R HB.size hn).mono ?_
  rintro e w1 ⟨r, A2, c2, xs, rfl, hr, hxl, own, hb⟩
  replace R := R.all hb HB.size
  have OX := own.mono HB.size
  clear own
  replace HB := HB.trans (hb.mono HB.size)
  clear hb
  replace OX := OX.alloc (.cells #[.int .i64 r.f0, .int .i64 r.f1, .int .i64 r.f2, .int .i64 r.f3, .int .i64 r.f4] 25)
  replace R := R.alloc HB.size (.cells #[.int .i64 r.f0, .int .i64 r.f1, .int .i64 r.f2, .int .i64 r.f3, .int .i64 r.f4] 25)
  have bR := Blk.new w1 #[.int .i64 r.f0, .int .i64 r.f1, .int .i64 r.f2, .int .i64 r.f3, .int .i64 r.f4] 25
  replace HB := HB.alloc HB.size (.cells #[.int .i64 r.f0, .int .i64 r.f1, .int .i64 r.f2, .int .i64 r.f3, .int .i64 r.f4] 25)
  obtain ⟨L, hL⟩ : ∃ z, (pay14 r xs).1 = z := ⟨_, rfl⟩
  obtain ⟨S, hS⟩ : ∃ z, (pay14 r xs).2.1 = z := ⟨_, rfl⟩
  obtain ⟨ok, hok⟩ : ∃ z, (pay14 r xs).2.2 = z := ⟨_, rfl⟩
  have hPi : Hid (∀ (w : World) (A : Option Addr) (c : Nat), RdF workSheetF w w.heap.size A xs.length c xs → Calls Try.prog 6 #[.agg #[.int .i64 r.f0, .int .i64 r.f1, .int .i64 r.f2, .int .i64 r.f3, .int .i64 r.f4], .slice A xs.length c] w (OutInts2 w L S ok)) := Lib.hid fun w A c h => (by have := implPayRoll_any r A _ c _ xs w h (Nat.le_refl _); rw [hL, hS, hok] at this; exact this)
  have hPs : Hid (∀ (w : World) (A : Option Addr) (c : Nat), RdF workSheetF w w.heap.size A xs.length c xs → Calls Try.prog 7 #[.agg #[.int .i64 r.f0, .int .i64 r.f1, .int .i64 r.f2, .int .i64 r.f3, .int .i64 r.f4], .slice A xs.length c] w (OutInts2 w L S ok)) := Lib.hid fun w A c h => (by have := specPayRoll_any r A _ c _ xs w h (Nat.le_refl _); rw [hL, hS, hok] at this; exact this)
  obtain ⟨tot, htot⟩ : ∃ z, wageSum r xs = z := ⟨_, rfl⟩
  have HF : Hid (ok = true → xs.length ≤ 12 ∧ S.length ≤ 1000 ∧ (0 ≤ tot ∧ tot ≤ 12000000) ∧ (∀ (k : Nat) (a : WorkSheetR), xs[k]? = some a → decide (a.f0 ∈ L) = true ∧ wage14 r a = (wageI r a, true) ∧ r.f2 ≤ wageI r a ∧ (0 ≤ wageI r a ∧ wageI r a ≤ 1000000)) ∧ (∀ x ∈ S, 0 ≤ x ∧ x ≤ 100000000) ∧ sumI S = tot) := Lib.hid fun hh => htot ▸ pay_facts hL hS (hok.trans hh)
  have HT := Lib.hid htot
  clear hL hS hok htot
  have hgg : (ok != ok) = false := by simp
  have ebR0 := bR.cell 0
  have ebR1 := bR.cell 1
  have ebR2 := bR.cell 2
  have ebR3 := bR.cell 3
  have ebR4 := bR.cell 4
  have zbR := bR.lt
  go_wp2_with fail
  refine (hPi.out _ _ _ OX.rd).mono ?_
  rintro e w2 ⟨A3, c3, A4, c4, rfl, own, own2, hdis, hb⟩
  clear ebR0 ebR1 ebR2 ebR3 ebR4 zbR
  replace OX := OX.all hb
  replace bR := bR.all hb
  replace R := R.all hb HB.size
  have OA := own.mono HB.size
  clear own
  have OB := own2.mono HB.size
  clear own2
  replace HB := HB.trans (hb.mono HB.size)
  clear hb
  clear hdis
  have ebR0 := bR.cell 0
  have ebR1 := bR.cell 1
  have ebR2 := bR.cell 2
  have ebR3 := bR.cell 3
  have ebR4 := bR.cell 4
  have zbR := bR.lt
  go_wp2_with fail
  refine (hPs.out _ _ _ OX.rd).mono ?_
  rintro e w3 ⟨A5, c5, A6, c6, rfl, own, own2, hdis, hb⟩
  clear ebR0 ebR1 ebR2 ebR3 ebR4 zbR
  replace OX := OX.all hb
  replace OA := OA.all hb
  replace OB := OB.all hb
  replace bR := bR.all hb
  replace R := R.all hb HB.size
  have OC := own.mono HB.size
  clear own
  have OD := own2.mono HB.size
  clear own2
  replace HB := HB.trans (hb.mono HB.size)
  clear hb
  clear hdis hPi hPs
  have ebR0 := bR.cell 0
  have ebR1 := bR.cell 1
  have ebR2 := bR.cell 2
  have ebR3 := bR.cell 3
  have ebR4 := bR.cell 4
  have zbR := bR.lt
  go_wp2_with fail
  refine (rInts_low _ _ _ _ _ _ _ _ L _ OA.rd OC.rd).mono ?_
  rintro e w4 ⟨rfl, hb⟩
  clear ebR0 ebR1 ebR2 ebR3 ebR4 zbR
  replace OX := OX.all hb
  replace OA := OA.all hb
  replace OB := OB.all hb
  replace OC := OC.all hb
  replace OD := OD.all hb
  replace bR := bR.all hb
  replace R := R.all hb HB.size
  replace HB := HB.trans (hb.mono HB.size)
  clear hb
  have ebR0 := bR.cell 0
  have ebR1 := bR.cell 1
  have ebR2 := bR.cell 2
  have ebR3 := bR.cell 3
  have ebR4 := bR.cell 4
  have zbR := bR.lt
  go_wp2_with fail
  refine (rInts_low _ _ _ _ _ _ _ _ S _ OB.rd OD.rd).mono ?_
  rintro e w5 ⟨rfl, hb⟩
  clear ebR0 ebR1 ebR2 ebR3 ebR4 zbR
  replace OX := OX.all hb
  replace OA := OA.all hb
  replace OB := OB.all hb
  replace OC := OC.all hb
  replace OD := OD.all hb
  replace bR := bR.all hb
  replace R := R.all hb HB.size
  replace HB := HB.trans (hb.mono HB.size)
  clear hb
  clear OC OD
  obtain ⟨PR, hPR⟩ : ∃ v, w1.heap.size = v := ⟨_, rfl⟩
  rw [hPR] at bR
  go_upto_block 0 with fail
  (try rw [hPR])
  clear hPR
  go_cut [11, 12] from 76 to 114 (fun s11 _ wx => ∃ q : Int, s11 = .int .i64 q ∧ Hid (ok = true → q = tot) ∧ Own wx w.heap.size (.slice A4 S.length c4) S ∧ RdB wx w.heap.size A n c ∧ Below w.heap.size w wx)
  case first =>
    clear hgg
    cases ok
    case false =>
      go_wp2
      go_loopw [12, 11] (fun s0 s1 wr => s0 = .int .i64 0 ∧ s1 = .int .i64 0 ∧ wr = w5) (fun _ _ _ => 0)
      case atStart => exact ⟨rfl, rfl, rfl⟩
      case round =>
        obtain ⟨rfl, rfl, hw⟩ := hrel
        subst hw
        by_cases hus : (0 : Int) < (xs.length : Int)
        · go_wp2
          go_meet
          exact ⟨0, rfl, Lib.hid (fun h => by cases h), OB, R, HB⟩
        · go_wp2
          go_meet
          exact ⟨0, rfl, Lib.hid (fun h => by cases h), OB, R, HB⟩
    case true =>
      obtain ⟨hx12, hs1, ht0, g1, g2, g3⟩ := HF.out rfl
      have G1 := Lib.hid g1
      clear HF g1 g2 g3
      have HB0 := Lib.hid HB
      clear HB
      go_wp2
      go_loopw [12, 11] (fun ii s11 wr => ∃ (k : Nat) (m : Int), k ≤ xs.length ∧ ii = .int .i64 k ∧ s11 = .int .i64 m ∧ 0 ≤ m ∧ m ≤ 1000000 * (k : Int) ∧ Hid (m + wageSum r (xs.drop k) = tot) ∧ OwnF workSheetF wr w.heap.size (.slice A2 xs.length c2) xs ∧ Own wr w.heap.size (.slice A3 L.length c3) L ∧ Own wr w.heap.size (.slice A4 S.length c4) S ∧ Blk wr PR 25 #[.int .i64 r.f0, .int .i64 r.f1, .int .i64 r.f2, .int .i64 r.f3, .int .i64 r.f4] ∧ RdB wr w.heap.size A n c ∧ Hid (Below w.heap.size w wr)) (fun ii _ _ => xs.length - (intOf ii).toNat)
      case atStart => exact ⟨0, 0, Nat.zero_le _, rfl, rfl, by omega, by omega, Lib.hid (by rw [List.drop_zero, HT.out]; omega), OX, OA, OB, bR, R, HB0⟩
      case round =>
        clear OX OA OB bR R HB0
        obtain ⟨k, m, hk, rfl, rfl, hm0, hm1, HY, OX, OA, OB, bR, R, HB0⟩ := hrel
        have hki : (0 : Int) ≤ (k : Int) := by omega
        by_cases hlt : k < xs.length
        · have hrv := OX.rd
          have hkn : (k : Int) < (xs.length : Int) := by omega
          obtain ⟨b, off, a, rfl, hbz, _, HX, hc0, hc1, hc2, hc3, hc4⟩ := WorkSheetR_at (F := workSheetF) rfl (fun _ => rfl) (fun _ => rfl) hrv hlt
          obtain ⟨ha, hwg, hle, hu0, hu1⟩ := G1.out k a HX.out
          have HH := Lib.hid ha
          obtain ⟨u, hu⟩ : ∃ u, wageI r a = u := ⟨_, rfl⟩
          rw [hu] at hwg hle hu0 hu1
          have HC : Hid (∀ w : World, Calls Try.prog 9 #[.agg #[.int .i64 r.f0, .int .i64 r.f1, .int .i64 r.f2, .int .i64 r.f3, .int .i64 r.f4], .agg #[.int .i64 a.f0, .int .i64 a.f1, .int .i64 a.f2, .int .i64 a.f3, .int .i64 a.f4]] w (Out w (.tuple #[.int .i64 u, .bool true]))) := Lib.hid fun w => (by have := implWageOf_any r a w; rw [hwg] at this; exact this)
          have HN := Lib.hid (show (m + u) + wageSum r (xs.drop (k + 1)) = tot by rw [← HY.out, wageSum_drop (r := r) HX.out, hu]; omega)
          have gm : IntKind.i64.wrap (m + u) = m + u := IntWalk.i64_in _ (by omega)
          have hd1 : decide (u < r.f2) = false := decide_eq_false (by omega)
          have hd2 : ¬ u < r.f2 := by omega
          have hm2 : m + u ≤ 1000000 * ((k + 1 : Nat) : Int) := by omega
          have hm3 : 0 ≤ m + u := by omega
          clear ha hwg hu hle
          go_wp2_with fail
          go_region_held3 (fun w' => w'.cell? ⟨PR, 0, none⟩ = some (.int .i64 r.f0) ∧ w'.cell? ⟨PR, 1, none⟩ = some (.int .i64 r.f1) ∧ w'.cell? ⟨PR, 2, none⟩ = some (.int .i64 r.f2) ∧ w'.cell? ⟨PR, 3, none⟩ = some (.int .i64 r.f3) ∧ w'.cell? ⟨PR, 4, none⟩ = some (.int .i64 r.f4) ∧ w'.cell? ⟨b, off + k * 5, none⟩ = some (.int .i64 a.f0) ∧ w'.cell? ⟨b, off + k * 5 + 1, none⟩ = some (.int .i64 a.f1) ∧ w'.cell? ⟨b, off + k * 5 + 2, none⟩ = some (.int .i64 a.f2) ∧ w'.cell? ⟨b, off + k * 5 + 3, none⟩ = some (.int .i64 a.f3) ∧ w'.cell? ⟨b, off + k * 5 + 4, none⟩ = some (.int .i64 a.f4)) (first | exact ⟨bR.cell 0, bR.cell 1, bR.cell 2, bR.cell 3, bR.cell 4, hc0, hc1, hc2, hc3, hc4⟩ | go_keep) (first | (go_at_call 9; (with_reducible refine (HC.out _).mono ?_); rintro e w5 ⟨rfl, hb5⟩; (try replace hb5 := below_drew' hb5); replace bR := bR.all hb5; replace OX := OX.all hb5; replace OA := OA.all hb5; replace OB := OB.all hb5; replace R := R.all hb5 HB0.out.size; replace HB0 := Lib.hid (HB0.out.trans (hb5.mono HB0.out.size)); replace hc0 := cells_of hb5 hc0 hbz; replace hc1 := cells_of hb5 hc1 hbz; replace hc2 := cells_of hb5 hc2 hbz; replace hc3 := cells_of hb5 hc3 hbz; replace hc4 := cells_of hb5 hc4 hbz))
          have hra := OA.rd
          have eR2 := bR.cell 2
          go_wp2_with fail
          refine (rHas_eq _ _ _ _ L a.f0 _ true hra HH).mono ?_
          rintro e w' ⟨rfl, rfl⟩
          go_wp2
          go_roundw
          case rel => exact ⟨k + 1, m + u, by omega, by go_num, by go_num, hm3, hm2, HN, OX, OA, OB, bR, R, HB0⟩
          case measure => simp [intOf]; omega
        · obtain rfl : k = xs.length := by omega
          have HE := Lib.hid (show m = tot by have := HY.out; rw [List.drop_length] at this; simpa [wageSum] using this)
          go_wp2
          go_meet
          exact ⟨m, rfl, Lib.hid (fun _ => HE.out), OB, R, HB0.out⟩
  case rest =>
    clear hgg
    clear OX OA bR
    clear OB R HB
    obtain ⟨q0, rfl, HQ, OB, R, HB⟩ := hcut
    cases ok
    case false =>
      clear HQ HF
      clear OB
      go_wp2_with fail
      refine (drawKnotsForWage_any A n c w.heap.size _ R HB.size hn).mono ?_
      rintro e w6 ⟨q, t, rfl, hq, ht, hb⟩
      replace R := R.all hb HB.size
      replace HB := HB.trans (hb.mono HB.size)
      clear hb
      replace R := R.alloc HB.size (.cells #[.int .i64 q.f0, .int .i64 q.f1, .int .i64 q.f2, .int .i64 q.f3, .int .i64 q.f4] 25)
      have bQ := Blk.new w6 #[.int .i64 q.f0, .int .i64 q.f1, .int .i64 q.f2, .int .i64 q.f3, .int .i64 q.f4] 25
      replace HB := HB.alloc HB.size (.cells #[.int .i64 q.f0, .int .i64 q.f1, .int .i64 q.f2, .int .i64 q.f3, .int .i64 q.f4] 25)
      obtain ⟨kn, hkn⟩ : ∃ z, (knots14 q t).1 = z := ⟨_, rfl⟩
      obtain ⟨fine, hfine⟩ : ∃ z, (knots14 q t).2 = z := ⟨_, rfl⟩
      have hKi : Hid (∀ (w : World), Calls Try.prog 13 #[.agg #[.int .i64 q.f0, .int .i64 q.f1, .int .i64 q.f2, .int .i64 q.f3, .int .i64 q.f4], .int .i64 t] w (Out w (.tuple #[.int .i64 kn, .bool fine]))) := Lib.hid fun w => (by have := implKnotsForWage_any q t w; rw [hkn, hfine] at this; exact this)
      have hKs : Hid (∀ (w : World), Calls Try.prog 14 #[.agg #[.int .i64 q.f0, .int .i64 q.f1, .int .i64 q.f2, .int .i64 q.f3, .int .i64 q.f4], .int .i64 t] w (Out w (.tuple #[.int .i64 kn, .bool fine]))) := Lib.hid fun w => (by have := specKnotsForWage_any q t w; rw [hkn, hfine] at this; exact this)
      have HKF : Hid (fine = true → (0 ≤ kn ∧ kn ≤ 12000) ∧ (0 ≤ t ∧ t ≤ 1000000) ∧ (∃ z : Int, wage14 q (sheetK kn) = (z, true) ∧ t ≤ z ∧ (0 ≤ z ∧ z ≤ 1000000)) ∧ (∃ (z : Int) (b : Bool), wage14 q (sheetK (kn - 1)) = (z, b) ∧ (0 ≤ z ∧ z ≤ 1000000) ∧ (b = true → z < t))) := Lib.hid fun hh => knots_facts hkn (hfine.trans hh)
      clear hkn hfine hq ht
      have ebQ0 := bQ.cell 0
      have ebQ1 := bQ.cell 1
      have ebQ2 := bQ.cell 2
      have ebQ3 := bQ.cell 3
      have ebQ4 := bQ.cell 4
      have zbQ := bQ.lt
      go_wp2_with fail
      refine (hKi.out _).mono ?_
      rintro e w7 ⟨rfl, hb⟩
      clear ebQ0 ebQ1 ebQ2 ebQ3 ebQ4 zbQ
      replace bQ := bQ.all hb
      replace R := R.all hb HB.size
      replace HB := HB.trans (hb.mono HB.size)
      clear hb
      have ebQ0 := bQ.cell 0
      have ebQ1 := bQ.cell 1
      have ebQ2 := bQ.cell 2
      have ebQ3 := bQ.cell 3
      have ebQ4 := bQ.cell 4
      have zbQ := bQ.lt
      go_wp2_with fail
      refine (hKs.out _).mono ?_
      rintro e w8 ⟨rfl, hb⟩
      clear ebQ0 ebQ1 ebQ2 ebQ3 ebQ4 zbQ
      replace bQ := bQ.all hb
      replace R := R.all hb HB.size
      replace HB := HB.trans (hb.mono HB.size)
      clear hb
      clear hKi hKs
      cases fine
      case false =>
        clear HKF
        clear bQ
        go_wp2_with fail
        refine (drawWagesBetween_any A n c w.heap.size _ R HB.size hn).mono ?_
        rintro e w9 ⟨p, A7, c7, ls, v, f, t2, rfl, hp, hll, hv, hf, ht2, own, hb⟩
        replace R := R.all hb HB.size
        have OL := own.mono HB.size
        clear own
        replace HB := HB.trans (hb.mono HB.size)
        clear hb
        replace OL := OL.alloc (.cells #[.int .i64 p.f0, .int .i64 p.f1, .int .i64 p.f2, .int .i64 p.f3, .int .i64 p.f4] 25)
        replace R := R.alloc HB.size (.cells #[.int .i64 p.f0, .int .i64 p.f1, .int .i64 p.f2, .int .i64 p.f3, .int .i64 p.f4] 25)
        have bP := Blk.new w9 #[.int .i64 p.f0, .int .i64 p.f1, .int .i64 p.f2, .int .i64 p.f3, .int .i64 p.f4] 25
        replace HB := HB.alloc HB.size (.cells #[.int .i64 p.f0, .int .i64 p.f1, .int .i64 p.f2, .int .i64 p.f3, .int .i64 p.f4] 25)
        obtain ⟨su, hsu⟩ : ∃ z, (between14 p ls v f t2).1 = z := ⟨_, rfl⟩
        obtain ⟨tw, htw⟩ : ∃ z, (between14 p ls v f t2).2 = z := ⟨_, rfl⟩
        have hWi : Hid (∀ (w : World) (A : Option Addr) (c : Nat), RdF workSheetF w w.heap.size A ls.length c ls → Calls Try.prog 16 #[.agg #[.int .i64 p.f0, .int .i64 p.f1, .int .i64 p.f2, .int .i64 p.f3, .int .i64 p.f4], .slice A ls.length c, .int .i64 v, .int .i64 f, .int .i64 t2] w (Out w (.tuple #[.int .i64 su, .bool tw]))) := Lib.hid fun w A c h => (by have := implWagesBetween_any p A _ c _ ls v f t2 w h (Nat.le_refl _); rw [hsu, htw] at this; exact this)
        have hWs : Hid (∀ (w : World) (A : Option Addr) (c : Nat), RdF workSheetF w w.heap.size A ls.length c ls → Calls Try.prog 17 #[.agg #[.int .i64 p.f0, .int .i64 p.f1, .int .i64 p.f2, .int .i64 p.f3, .int .i64 p.f4], .slice A ls.length c, .int .i64 v, .int .i64 f, .int .i64 t2] w (Out w (.tuple #[.int .i64 su, .bool tw]))) := Lib.hid fun w A c h => (by have := specWagesBetween_any p A _ c _ ls v f t2 w h (Nat.le_refl _); rw [hsu, htw] at this; exact this)
        have hs0 : 0 ≤ su := hsu ▸ between_nn p ls v f t2
        have hs1 : decide (su < 0) = false := decide_eq_false (by omega)
        clear hsu htw hll hv hf ht2 hp
        have ebP0 := bP.cell 0
        have ebP1 := bP.cell 1
        have ebP2 := bP.cell 2
        have ebP3 := bP.cell 3
        have ebP4 := bP.cell 4
        have zbP := bP.lt
        go_wp2_with fail
        refine (hWi.out _ _ _ OL.rd).mono ?_
        rintro e w10 ⟨rfl, hb⟩
        clear ebP0 ebP1 ebP2 ebP3 ebP4 zbP
        replace OL := OL.all hb
        replace bP := bP.all hb
        replace R := R.all hb HB.size
        replace HB := HB.trans (hb.mono HB.size)
        clear hb
        have ebP0 := bP.cell 0
        have ebP1 := bP.cell 1
        have ebP2 := bP.cell 2
        have ebP3 := bP.cell 3
        have ebP4 := bP.cell 4
        have zbP := bP.lt
        go_wp2_with fail
        refine (hWs.out _ _ _ OL.rd).mono ?_
        rintro e w11 ⟨rfl, hb⟩
        clear ebP0 ebP1 ebP2 ebP3 ebP4 zbP
        replace OL := OL.all hb
        replace bP := bP.all hb
        replace R := R.all hb HB.size
        replace HB := HB.trans (hb.mono HB.size)
        clear hb
        clear hWi hWs
        clear OL bP
        go_wp2_with fail
        refine (drawWageOf_any A n c w.heap.size _ R HB.size hn).mono ?_
        rintro e w12 ⟨x, s, rfl, hx, hs, hb⟩
        replace R := R.all hb HB.size
        replace HB := HB.trans (hb.mono HB.size)
        clear hb
        replace R := R.alloc HB.size (.cells #[.int .i64 x.f0, .int .i64 x.f1, .int .i64 x.f2, .int .i64 x.f3, .int .i64 x.f4] 25)
        have bA := Blk.new w12 #[.int .i64 x.f0, .int .i64 x.f1, .int .i64 x.f2, .int .i64 x.f3, .int .i64 x.f4] 25
        replace HB := HB.alloc HB.size (.cells #[.int .i64 x.f0, .int .i64 x.f1, .int .i64 x.f2, .int .i64 x.f3, .int .i64 x.f4] 25)
        replace bA := bA.alloc (.cells #[.int .i64 s.f0, .int .i64 s.f1, .int .i64 s.f2, .int .i64 s.f3, .int .i64 s.f4] 36)
        replace R := R.alloc HB.size (.cells #[.int .i64 s.f0, .int .i64 s.f1, .int .i64 s.f2, .int .i64 s.f3, .int .i64 s.f4] 36)
        have bB := Blk.new (w12.alloc (.cells #[.int .i64 x.f0, .int .i64 x.f1, .int .i64 x.f2, .int .i64 x.f3, .int .i64 x.f4] 25)) #[.int .i64 s.f0, .int .i64 s.f1, .int .i64 s.f2, .int .i64 s.f3, .int .i64 s.f4] 36
        replace HB := HB.alloc HB.size (.cells #[.int .i64 s.f0, .int .i64 s.f1, .int .i64 s.f2, .int .i64 s.f3, .int .i64 s.f4] 36)
        replace bB := bB.at_ (q := w12.heap.size + 1) (by simp)
        obtain ⟨wv, hwv⟩ : ∃ z, (wage14 x s).1 = z := ⟨_, rfl⟩
        obtain ⟨kw, hkw⟩ : ∃ z, (wage14 x s).2 = z := ⟨_, rfl⟩
        obtain ⟨b1, hb1⟩ : ∃ z, ratesB x = z := ⟨_, rfl⟩
        obtain ⟨b2, hb2⟩ : ∃ z, sheetB s = z := ⟨_, rfl⟩
        have hOi : Hid (∀ (w : World), Calls Try.prog 9 #[.agg #[.int .i64 x.f0, .int .i64 x.f1, .int .i64 x.f2, .int .i64 x.f3, .int .i64 x.f4], .agg #[.int .i64 s.f0, .int .i64 s.f1, .int .i64 s.f2, .int .i64 s.f3, .int .i64 s.f4]] w (Out w (.tuple #[.int .i64 wv, .bool kw]))) := Lib.hid fun w => (by have := implWageOf_any x s w; rw [hwv, hkw] at this; exact this)
        have hOs : Hid (∀ (w : World), Calls Try.prog 19 #[.agg #[.int .i64 x.f0, .int .i64 x.f1, .int .i64 x.f2, .int .i64 x.f3, .int .i64 x.f4], .agg #[.int .i64 s.f0, .int .i64 s.f1, .int .i64 s.f2, .int .i64 s.f3, .int .i64 s.f4]] w (Out w (.tuple #[.int .i64 wv, .bool kw]))) := Lib.hid fun w => (by have := specWageOf_any x s w; rw [hwv, hkw] at this; exact this)
        have HKW : Hid (kw = (b1 && b2)) := Lib.hid (by rw [← hkw, ← hb1, ← hb2]; exact wage14_ok x s)
        have H1 := Lib.hid hb1
        have H2 := Lib.hid hb2
        clear hwv hkw hb1 hb2 hx hs hs0 hs1
        have ebA0 := bA.cell 0
        have ebA1 := bA.cell 1
        have ebA2 := bA.cell 2
        have ebA3 := bA.cell 3
        have ebA4 := bA.cell 4
        have zbA := bA.lt
        have ebB0 := bB.cell 0
        have ebB1 := bB.cell 1
        have ebB2 := bB.cell 2
        have ebB3 := bB.cell 3
        have ebB4 := bB.cell 4
        have zbB := bB.lt
        go_wp2_with fail
        refine (hOi.out _).mono ?_
        rintro e w13 ⟨rfl, hb⟩
        clear ebA0 ebA1 ebA2 ebA3 ebA4 zbA ebB0 ebB1 ebB2 ebB3 ebB4 zbB
        replace bA := bA.all hb
        replace bB := bB.all hb
        replace R := R.all hb HB.size
        replace HB := HB.trans (hb.mono HB.size)
        clear hb
        have ebA0 := bA.cell 0
        have ebA1 := bA.cell 1
        have ebA2 := bA.cell 2
        have ebA3 := bA.cell 3
        have ebA4 := bA.cell 4
        have zbA := bA.lt
        have ebB0 := bB.cell 0
        have ebB1 := bB.cell 1
        have ebB2 := bB.cell 2
        have ebB3 := bB.cell 3
        have ebB4 := bB.cell 4
        have zbB := bB.lt
        go_wp2_with fail
        refine (hOs.out _).mono ?_
        rintro e w14 ⟨rfl, hb⟩
        clear ebA0 ebA1 ebA2 ebA3 ebA4 zbA ebB0 ebB1 ebB2 ebB3 ebB4 zbB
        replace bA := bA.all hb
        replace bB := bB.all hb
        replace R := R.all hb HB.size
        replace HB := HB.trans (hb.mono HB.size)
        clear hb
        clear hOi hOs
        cases b1
        case false =>
          obtain rfl : kw = false := by simpa using HKW.out
          have ebA0 := bA.cell 0
          have ebA1 := bA.cell 1
          have ebA2 := bA.cell 2
          have ebA3 := bA.cell 3
          have ebA4 := bA.cell 4
          have zbA := bA.lt
          have ebB0 := bB.cell 0
          have ebB1 := bB.cell 1
          have ebB2 := bB.cell 2
          have ebB3 := bB.cell 3
          have ebB4 := bB.cell 4
          have zbB := bB.lt
          go_wp2_with fail
          refine (implAreRates_eq x _ false H1.out).mono ?_
          rintro e w15 ⟨rfl, hb⟩
          clear ebA0 ebA1 ebA2 ebA3 ebA4 zbA ebB0 ebB1 ebB2 ebB3 ebB4 zbB
          replace bA := bA.all hb
          replace bB := bB.all hb
          replace R := R.all hb HB.size
          replace HB := HB.trans (hb.mono HB.size)
          clear hb
          go_wp2
          go_ret
          exact ⟨ret_bool (by simp), HB⟩
        case true =>
          obtain rfl : kw = b2 := by simpa using HKW.out
          have ebA0 := bA.cell 0
          have ebA1 := bA.cell 1
          have ebA2 := bA.cell 2
          have ebA3 := bA.cell 3
          have ebA4 := bA.cell 4
          have zbA := bA.lt
          have ebB0 := bB.cell 0
          have ebB1 := bB.cell 1
          have ebB2 := bB.cell 2
          have ebB3 := bB.cell 3
          have ebB4 := bB.cell 4
          have zbB := bB.lt
          go_wp2_with fail
          refine (implAreRates_eq x _ true H1.out).mono ?_
          rintro e w15 ⟨rfl, hb⟩
          clear ebA0 ebA1 ebA2 ebA3 ebA4 zbA ebB0 ebB1 ebB2 ebB3 ebB4 zbB
          replace bA := bA.all hb
          replace bB := bB.all hb
          replace R := R.all hb HB.size
          replace HB := HB.trans (hb.mono HB.size)
          clear hb
          have ebA0 := bA.cell 0
          have ebA1 := bA.cell 1
          have ebA2 := bA.cell 2
          have ebA3 := bA.cell 3
          have ebA4 := bA.cell 4
          have zbA := bA.lt
          have ebB0 := bB.cell 0
          have ebB1 := bB.cell 1
          have ebB2 := bB.cell 2
          have ebB3 := bB.cell 3
          have ebB4 := bB.cell 4
          have zbB := bB.lt
          go_wp2_with fail
          refine (implIsWorkSheet_eq s _ kw H2.out).mono ?_
          rintro e w16 ⟨rfl, hb⟩
          clear ebA0 ebA1 ebA2 ebA3 ebA4 zbA ebB0 ebB1 ebB2 ebB3 ebB4 zbB
          replace bA := bA.all hb
          replace bB := bB.all hb
          replace R := R.all hb HB.size
          replace HB := HB.trans (hb.mono HB.size)
          clear hb
          go_wp2
          go_ret
          exact ⟨ret_bool (by simp), HB⟩
      case true =>
        obtain ⟨hk0, ht0, ⟨z, e1, z0, z1⟩, z2, b, e2, y0, y1⟩ := HKF.out rfl
        have hV1 : Hid (∀ (w : World), Calls Try.prog 9 #[.agg #[.int .i64 q.f0, .int .i64 q.f1, .int .i64 q.f2, .int .i64 q.f3, .int .i64 q.f4], .agg #[.int .i64 1, .int .i64 0, .int .i64 kn, .int .i64 0, .int .i64 0]] w (Out w (.tuple #[.int .i64 z, .bool true]))) := Lib.hid fun w => (by have := implWageOf_any q (sheetK kn) w; rw [e1] at this; exact this)
        have hV2 : Hid (∀ (w : World), Calls Try.prog 9 #[.agg #[.int .i64 q.f0, .int .i64 q.f1, .int .i64 q.f2, .int .i64 q.f3, .int .i64 q.f4], .agg #[.int .i64 1, .int .i64 0, .int .i64 (kn - 1), .int .i64 0, .int .i64 0]] w (Out w (.tuple #[.int .i64 z2, .bool b]))) := Lib.hid fun w => (by have := implWageOf_any q (sheetK (kn - 1)) w; rw [e2] at this; exact this)
        have hw1 : IntKind.i64.wrap (kn - 1) = kn - 1 := IntWalk.i64_in _ (by omega)
        have hd1 : decide (z < t) = false := decide_eq_false (by omega)
        have HY1 := Lib.hid y1
        clear HKF e1 e2 y1
        have ebQ0 := bQ.cell 0
        have ebQ1 := bQ.cell 1
        have ebQ2 := bQ.cell 2
        have ebQ3 := bQ.cell 3
        have ebQ4 := bQ.cell 4
        have zbQ := bQ.lt
        go_wp2_with fail
        refine (hV1.out _).mono ?_
        rintro e w9 ⟨rfl, hb⟩
        clear ebQ0 ebQ1 ebQ2 ebQ3 ebQ4 zbQ
        replace bQ := bQ.all hb
        replace R := R.all hb HB.size
        replace HB := HB.trans (hb.mono HB.size)
        clear hb
        have ebQ0 := bQ.cell 0
        have ebQ1 := bQ.cell 1
        have ebQ2 := bQ.cell 2
        have ebQ3 := bQ.cell 3
        have ebQ4 := bQ.cell 4
        have zbQ := bQ.lt
        go_wp2_with fail
        refine (hV2.out _).mono ?_
        rintro e w10 ⟨rfl, hb⟩
        clear ebQ0 ebQ1 ebQ2 ebQ3 ebQ4 zbQ
        replace bQ := bQ.all hb
        replace R := R.all hb HB.size
        replace HB := HB.trans (hb.mono HB.size)
        clear hb
        clear hV1 hV2 hw1
        clear bQ
        cases b
        case false =>
          clear HY1
          go_wp2_with fail
          refine (drawWagesBetween_any A n c w.heap.size _ R HB.size hn).mono ?_
          rintro e w11 ⟨p, A7, c7, ls, v, f, t2, rfl, hp, hll, hv, hf, ht2, own, hb⟩
          replace R := R.all hb HB.size
          have OL := own.mono HB.size
          clear own
          replace HB := HB.trans (hb.mono HB.size)
          clear hb
          replace OL := OL.alloc (.cells #[.int .i64 p.f0, .int .i64 p.f1, .int .i64 p.f2, .int .i64 p.f3, .int .i64 p.f4] 25)
          replace R := R.alloc HB.size (.cells #[.int .i64 p.f0, .int .i64 p.f1, .int .i64 p.f2, .int .i64 p.f3, .int .i64 p.f4] 25)
          have bP := Blk.new w11 #[.int .i64 p.f0, .int .i64 p.f1, .int .i64 p.f2, .int .i64 p.f3, .int .i64 p.f4] 25
          replace HB := HB.alloc HB.size (.cells #[.int .i64 p.f0, .int .i64 p.f1, .int .i64 p.f2, .int .i64 p.f3, .int .i64 p.f4] 25)
          obtain ⟨su, hsu⟩ : ∃ z, (between14 p ls v f t2).1 = z := ⟨_, rfl⟩
          obtain ⟨tw, htw⟩ : ∃ z, (between14 p ls v f t2).2 = z := ⟨_, rfl⟩
          have hWi : Hid (∀ (w : World) (A : Option Addr) (c : Nat), RdF workSheetF w w.heap.size A ls.length c ls → Calls Try.prog 16 #[.agg #[.int .i64 p.f0, .int .i64 p.f1, .int .i64 p.f2, .int .i64 p.f3, .int .i64 p.f4], .slice A ls.length c, .int .i64 v, .int .i64 f, .int .i64 t2] w (Out w (.tuple #[.int .i64 su, .bool tw]))) := Lib.hid fun w A c h => (by have := implWagesBetween_any p A _ c _ ls v f t2 w h (Nat.le_refl _); rw [hsu, htw] at this; exact this)
          have hWs : Hid (∀ (w : World) (A : Option Addr) (c : Nat), RdF workSheetF w w.heap.size A ls.length c ls → Calls Try.prog 17 #[.agg #[.int .i64 p.f0, .int .i64 p.f1, .int .i64 p.f2, .int .i64 p.f3, .int .i64 p.f4], .slice A ls.length c, .int .i64 v, .int .i64 f, .int .i64 t2] w (Out w (.tuple #[.int .i64 su, .bool tw]))) := Lib.hid fun w A c h => (by have := specWagesBetween_any p A _ c _ ls v f t2 w h (Nat.le_refl _); rw [hsu, htw] at this; exact this)
          have hs0 : 0 ≤ su := hsu ▸ between_nn p ls v f t2
          have hs1 : decide (su < 0) = false := decide_eq_false (by omega)
          clear hsu htw hll hv hf ht2 hp
          have ebP0 := bP.cell 0
          have ebP1 := bP.cell 1
          have ebP2 := bP.cell 2
          have ebP3 := bP.cell 3
          have ebP4 := bP.cell 4
          have zbP := bP.lt
          go_wp2_with fail
          refine (hWi.out _ _ _ OL.rd).mono ?_
          rintro e w12 ⟨rfl, hb⟩
          clear ebP0 ebP1 ebP2 ebP3 ebP4 zbP
          replace OL := OL.all hb
          replace bP := bP.all hb
          replace R := R.all hb HB.size
          replace HB := HB.trans (hb.mono HB.size)
          clear hb
          have ebP0 := bP.cell 0
          have ebP1 := bP.cell 1
          have ebP2 := bP.cell 2
          have ebP3 := bP.cell 3
          have ebP4 := bP.cell 4
          have zbP := bP.lt
          go_wp2_with fail
          refine (hWs.out _ _ _ OL.rd).mono ?_
          rintro e w13 ⟨rfl, hb⟩
          clear ebP0 ebP1 ebP2 ebP3 ebP4 zbP
          replace OL := OL.all hb
          replace bP := bP.all hb
          replace R := R.all hb HB.size
          replace HB := HB.trans (hb.mono HB.size)
          clear hb
          clear hWi hWs
          clear OL bP
          go_wp2_with fail
          refine (drawWageOf_any A n c w.heap.size _ R HB.size hn).mono ?_
          rintro e w14 ⟨x, s, rfl, hx, hs, hb⟩
          replace R := R.all hb HB.size
          replace HB := HB.trans (hb.mono HB.size)
          clear hb
          replace R := R.alloc HB.size (.cells #[.int .i64 x.f0, .int .i64 x.f1, .int .i64 x.f2, .int .i64 x.f3, .int .i64 x.f4] 25)
          have bA := Blk.new w14 #[.int .i64 x.f0, .int .i64 x.f1, .int .i64 x.f2, .int .i64 x.f3, .int .i64 x.f4] 25
          replace HB := HB.alloc HB.size (.cells #[.int .i64 x.f0, .int .i64 x.f1, .int .i64 x.f2, .int .i64 x.f3, .int .i64 x.f4] 25)
          replace bA := bA.alloc (.cells #[.int .i64 s.f0, .int .i64 s.f1, .int .i64 s.f2, .int .i64 s.f3, .int .i64 s.f4] 36)
          replace R := R.alloc HB.size (.cells #[.int .i64 s.f0, .int .i64 s.f1, .int .i64 s.f2, .int .i64 s.f3, .int .i64 s.f4] 36)
          have bB := Blk.new (w14.alloc (.cells #[.int .i64 x.f0, .int .i64 x.f1, .int .i64 x.f2, .int .i64 x.f3, .int .i64 x.f4] 25)) #[.int .i64 s.f0, .int .i64 s.f1, .int .i64 s.f2, .int .i64 s.f3, .int .i64 s.f4] 36
          replace HB := HB.alloc HB.size (.cells #[.int .i64 s.f0, .int .i64 s.f1, .int .i64 s.f2, .int .i64 s.f3, .int .i64 s.f4] 36)
          replace bB := bB.at_ (q := w14.heap.size + 1) (by simp)
          obtain ⟨wv, hwv⟩ : ∃ z, (wage14 x s).1 = z := ⟨_, rfl⟩
          obtain ⟨kw, hkw⟩ : ∃ z, (wage14 x s).2 = z := ⟨_, rfl⟩
          obtain ⟨b1, hb1⟩ : ∃ z, ratesB x = z := ⟨_, rfl⟩
          obtain ⟨b2, hb2⟩ : ∃ z, sheetB s = z := ⟨_, rfl⟩
          have hOi : Hid (∀ (w : World), Calls Try.prog 9 #[.agg #[.int .i64 x.f0, .int .i64 x.f1, .int .i64 x.f2, .int .i64 x.f3, .int .i64 x.f4], .agg #[.int .i64 s.f0, .int .i64 s.f1, .int .i64 s.f2, .int .i64 s.f3, .int .i64 s.f4]] w (Out w (.tuple #[.int .i64 wv, .bool kw]))) := Lib.hid fun w => (by have := implWageOf_any x s w; rw [hwv, hkw] at this; exact this)
          have hOs : Hid (∀ (w : World), Calls Try.prog 19 #[.agg #[.int .i64 x.f0, .int .i64 x.f1, .int .i64 x.f2, .int .i64 x.f3, .int .i64 x.f4], .agg #[.int .i64 s.f0, .int .i64 s.f1, .int .i64 s.f2, .int .i64 s.f3, .int .i64 s.f4]] w (Out w (.tuple #[.int .i64 wv, .bool kw]))) := Lib.hid fun w => (by have := specWageOf_any x s w; rw [hwv, hkw] at this; exact this)
          have HKW : Hid (kw = (b1 && b2)) := Lib.hid (by rw [← hkw, ← hb1, ← hb2]; exact wage14_ok x s)
          have H1 := Lib.hid hb1
          have H2 := Lib.hid hb2
          clear hwv hkw hb1 hb2 hx hs hs0 hs1
          have ebA0 := bA.cell 0
          have ebA1 := bA.cell 1
          have ebA2 := bA.cell 2
          have ebA3 := bA.cell 3
          have ebA4 := bA.cell 4
          have zbA := bA.lt
          have ebB0 := bB.cell 0
          have ebB1 := bB.cell 1
          have ebB2 := bB.cell 2
          have ebB3 := bB.cell 3
          have ebB4 := bB.cell 4
          have zbB := bB.lt
          go_wp2_with fail
          refine (hOi.out _).mono ?_
          rintro e w15 ⟨rfl, hb⟩
          clear ebA0 ebA1 ebA2 ebA3 ebA4 zbA ebB0 ebB1 ebB2 ebB3 ebB4 zbB
          replace bA := bA.all hb
          replace bB := bB.all hb
          replace R := R.all hb HB.size
          replace HB := HB.trans (hb.mono HB.size)
          clear hb
          have ebA0 := bA.cell 0
          have ebA1 := bA.cell 1
          have ebA2 := bA.cell 2
          have ebA3 := bA.cell 3
          have ebA4 := bA.cell 4
          have zbA := bA.lt
          have ebB0 := bB.cell 0
          have ebB1 := bB.cell 1
          have ebB2 := bB.cell 2
          have ebB3 := bB.cell 3
          have ebB4 := bB.cell 4
          have zbB := bB.lt
          go_wp2_with fail
          refine (hOs.out _).mono ?_
          rintro e w16 ⟨rfl, hb⟩
          clear ebA0 ebA1 ebA2 ebA3 ebA4 zbA ebB0 ebB1 ebB2 ebB3 ebB4 zbB
          replace bA := bA.all hb
          replace bB := bB.all hb
          replace R := R.all hb HB.size
          replace HB := HB.trans (hb.mono HB.size)
          clear hb
          clear hOi hOs
          cases b1
          case false =>
            obtain rfl : kw = false := by simpa using HKW.out
            have ebA0 := bA.cell 0
            have ebA1 := bA.cell 1
            have ebA2 := bA.cell 2
            have ebA3 := bA.cell 3
            have ebA4 := bA.cell 4
            have zbA := bA.lt
            have ebB0 := bB.cell 0
            have ebB1 := bB.cell 1
            have ebB2 := bB.cell 2
            have ebB3 := bB.cell 3
            have ebB4 := bB.cell 4
            have zbB := bB.lt
            go_wp2_with fail
            refine (implAreRates_eq x _ false H1.out).mono ?_
            rintro e w17 ⟨rfl, hb⟩
            clear ebA0 ebA1 ebA2 ebA3 ebA4 zbA ebB0 ebB1 ebB2 ebB3 ebB4 zbB
            replace bA := bA.all hb
            replace bB := bB.all hb
            replace R := R.all hb HB.size
            replace HB := HB.trans (hb.mono HB.size)
            clear hb
            go_wp2
            go_ret
            exact ⟨ret_bool (by simp), HB⟩
          case true =>
            obtain rfl : kw = b2 := by simpa using HKW.out
            have ebA0 := bA.cell 0
            have ebA1 := bA.cell 1
            have ebA2 := bA.cell 2
            have ebA3 := bA.cell 3
            have ebA4 := bA.cell 4
            have zbA := bA.lt
            have ebB0 := bB.cell 0
            have ebB1 := bB.cell 1
            have ebB2 := bB.cell 2
            have ebB3 := bB.cell 3
            have ebB4 := bB.cell 4
            have zbB := bB.lt
            go_wp2_with fail
            refine (implAreRates_eq x _ true H1.out).mono ?_
            rintro e w17 ⟨rfl, hb⟩
            clear ebA0 ebA1 ebA2 ebA3 ebA4 zbA ebB0 ebB1 ebB2 ebB3 ebB4 zbB
            replace bA := bA.all hb
            replace bB := bB.all hb
            replace R := R.all hb HB.size
            replace HB := HB.trans (hb.mono HB.size)
            clear hb
            have ebA0 := bA.cell 0
            have ebA1 := bA.cell 1
            have ebA2 := bA.cell 2
            have ebA3 := bA.cell 3
            have ebA4 := bA.cell 4
            have zbA := bA.lt
            have ebB0 := bB.cell 0
            have ebB1 := bB.cell 1
            have ebB2 := bB.cell 2
            have ebB3 := bB.cell 3
            have ebB4 := bB.cell 4
            have zbB := bB.lt
            go_wp2_with fail
            refine (implIsWorkSheet_eq s _ kw H2.out).mono ?_
            rintro e w18 ⟨rfl, hb⟩
            clear ebA0 ebA1 ebA2 ebA3 ebA4 zbA ebB0 ebB1 ebB2 ebB3 ebB4 zbB
            replace bA := bA.all hb
            replace bB := bB.all hb
            replace R := R.all hb HB.size
            replace HB := HB.trans (hb.mono HB.size)
            clear hb
            go_wp2
            go_ret
            exact ⟨ret_bool (by simp), HB⟩
        case true =>
          have h7 := HY1.out rfl
          have hd2 : decide (t ≤ z2) = false := decide_eq_false (by omega)
          clear HY1
          go_wp2_with fail
          refine (drawWagesBetween_any A n c w.heap.size _ R HB.size hn).mono ?_
          rintro e w11 ⟨p, A7, c7, ls, v, f, t2, rfl, hp, hll, hv, hf, ht2, own, hb⟩
          replace R := R.all hb HB.size
          have OL := own.mono HB.size
          clear own
          replace HB := HB.trans (hb.mono HB.size)
          clear hb
          replace OL := OL.alloc (.cells #[.int .i64 p.f0, .int .i64 p.f1, .int .i64 p.f2, .int .i64 p.f3, .int .i64 p.f4] 25)
          replace R := R.alloc HB.size (.cells #[.int .i64 p.f0, .int .i64 p.f1, .int .i64 p.f2, .int .i64 p.f3, .int .i64 p.f4] 25)
          have bP := Blk.new w11 #[.int .i64 p.f0, .int .i64 p.f1, .int .i64 p.f2, .int .i64 p.f3, .int .i64 p.f4] 25
          replace HB := HB.alloc HB.size (.cells #[.int .i64 p.f0, .int .i64 p.f1, .int .i64 p.f2, .int .i64 p.f3, .int .i64 p.f4] 25)
          obtain ⟨su, hsu⟩ : ∃ z, (between14 p ls v f t2).1 = z := ⟨_, rfl⟩
          obtain ⟨tw, htw⟩ : ∃ z, (between14 p ls v f t2).2 = z := ⟨_, rfl⟩
          have hWi : Hid (∀ (w : World) (A : Option Addr) (c : Nat), RdF workSheetF w w.heap.size A ls.length c ls → Calls Try.prog 16 #[.agg #[.int .i64 p.f0, .int .i64 p.f1, .int .i64 p.f2, .int .i64 p.f3, .int .i64 p.f4], .slice A ls.length c, .int .i64 v, .int .i64 f, .int .i64 t2] w (Out w (.tuple #[.int .i64 su, .bool tw]))) := Lib.hid fun w A c h => (by have := implWagesBetween_any p A _ c _ ls v f t2 w h (Nat.le_refl _); rw [hsu, htw] at this; exact this)
          have hWs : Hid (∀ (w : World) (A : Option Addr) (c : Nat), RdF workSheetF w w.heap.size A ls.length c ls → Calls Try.prog 17 #[.agg #[.int .i64 p.f0, .int .i64 p.f1, .int .i64 p.f2, .int .i64 p.f3, .int .i64 p.f4], .slice A ls.length c, .int .i64 v, .int .i64 f, .int .i64 t2] w (Out w (.tuple #[.int .i64 su, .bool tw]))) := Lib.hid fun w A c h => (by have := specWagesBetween_any p A _ c _ ls v f t2 w h (Nat.le_refl _); rw [hsu, htw] at this; exact this)
          have hs0 : 0 ≤ su := hsu ▸ between_nn p ls v f t2
          have hs1 : decide (su < 0) = false := decide_eq_false (by omega)
          clear hsu htw hll hv hf ht2 hp
          have ebP0 := bP.cell 0
          have ebP1 := bP.cell 1
          have ebP2 := bP.cell 2
          have ebP3 := bP.cell 3
          have ebP4 := bP.cell 4
          have zbP := bP.lt
          go_wp2_with fail
          refine (hWi.out _ _ _ OL.rd).mono ?_
          rintro e w12 ⟨rfl, hb⟩
          clear ebP0 ebP1 ebP2 ebP3 ebP4 zbP
          replace OL := OL.all hb
          replace bP := bP.all hb
          replace R := R.all hb HB.size
          replace HB := HB.trans (hb.mono HB.size)
          clear hb
          have ebP0 := bP.cell 0
          have ebP1 := bP.cell 1
          have ebP2 := bP.cell 2
          have ebP3 := bP.cell 3
          have ebP4 := bP.cell 4
          have zbP := bP.lt
          go_wp2_with fail
          refine (hWs.out _ _ _ OL.rd).mono ?_
          rintro e w13 ⟨rfl, hb⟩
          clear ebP0 ebP1 ebP2 ebP3 ebP4 zbP
          replace OL := OL.all hb
          replace bP := bP.all hb
          replace R := R.all hb HB.size
          replace HB := HB.trans (hb.mono HB.size)
          clear hb
          clear hWi hWs
          clear OL bP
          go_wp2_with fail
          refine (drawWageOf_any A n c w.heap.size _ R HB.size hn).mono ?_
          rintro e w14 ⟨x, s, rfl, hx, hs, hb⟩
          replace R := R.all hb HB.size
          replace HB := HB.trans (hb.mono HB.size)
          clear hb
          replace R := R.alloc HB.size (.cells #[.int .i64 x.f0, .int .i64 x.f1, .int .i64 x.f2, .int .i64 x.f3, .int .i64 x.f4] 25)
          have bA := Blk.new w14 #[.int .i64 x.f0, .int .i64 x.f1, .int .i64 x.f2, .int .i64 x.f3, .int .i64 x.f4] 25
          replace HB := HB.alloc HB.size (.cells #[.int .i64 x.f0, .int .i64 x.f1, .int .i64 x.f2, .int .i64 x.f3, .int .i64 x.f4] 25)
          replace bA := bA.alloc (.cells #[.int .i64 s.f0, .int .i64 s.f1, .int .i64 s.f2, .int .i64 s.f3, .int .i64 s.f4] 36)
          replace R := R.alloc HB.size (.cells #[.int .i64 s.f0, .int .i64 s.f1, .int .i64 s.f2, .int .i64 s.f3, .int .i64 s.f4] 36)
          have bB := Blk.new (w14.alloc (.cells #[.int .i64 x.f0, .int .i64 x.f1, .int .i64 x.f2, .int .i64 x.f3, .int .i64 x.f4] 25)) #[.int .i64 s.f0, .int .i64 s.f1, .int .i64 s.f2, .int .i64 s.f3, .int .i64 s.f4] 36
          replace HB := HB.alloc HB.size (.cells #[.int .i64 s.f0, .int .i64 s.f1, .int .i64 s.f2, .int .i64 s.f3, .int .i64 s.f4] 36)
          replace bB := bB.at_ (q := w14.heap.size + 1) (by simp)
          obtain ⟨wv, hwv⟩ : ∃ z, (wage14 x s).1 = z := ⟨_, rfl⟩
          obtain ⟨kw, hkw⟩ : ∃ z, (wage14 x s).2 = z := ⟨_, rfl⟩
          obtain ⟨b1, hb1⟩ : ∃ z, ratesB x = z := ⟨_, rfl⟩
          obtain ⟨b2, hb2⟩ : ∃ z, sheetB s = z := ⟨_, rfl⟩
          have hOi : Hid (∀ (w : World), Calls Try.prog 9 #[.agg #[.int .i64 x.f0, .int .i64 x.f1, .int .i64 x.f2, .int .i64 x.f3, .int .i64 x.f4], .agg #[.int .i64 s.f0, .int .i64 s.f1, .int .i64 s.f2, .int .i64 s.f3, .int .i64 s.f4]] w (Out w (.tuple #[.int .i64 wv, .bool kw]))) := Lib.hid fun w => (by have := implWageOf_any x s w; rw [hwv, hkw] at this; exact this)
          have hOs : Hid (∀ (w : World), Calls Try.prog 19 #[.agg #[.int .i64 x.f0, .int .i64 x.f1, .int .i64 x.f2, .int .i64 x.f3, .int .i64 x.f4], .agg #[.int .i64 s.f0, .int .i64 s.f1, .int .i64 s.f2, .int .i64 s.f3, .int .i64 s.f4]] w (Out w (.tuple #[.int .i64 wv, .bool kw]))) := Lib.hid fun w => (by have := specWageOf_any x s w; rw [hwv, hkw] at this; exact this)
          have HKW : Hid (kw = (b1 && b2)) := Lib.hid (by rw [← hkw, ← hb1, ← hb2]; exact wage14_ok x s)
          have H1 := Lib.hid hb1
          have H2 := Lib.hid hb2
          clear hwv hkw hb1 hb2 hx hs hs0 hs1
          have ebA0 := bA.cell 0
          have ebA1 := bA.cell 1
          have ebA2 := bA.cell 2
          have ebA3 := bA.cell 3
          have ebA4 := bA.cell 4
          have zbA := bA.lt
          have ebB0 := bB.cell 0
          have ebB1 := bB.cell 1
          have ebB2 := bB.cell 2
          have ebB3 := bB.cell 3
          have ebB4 := bB.cell 4
          have zbB := bB.lt
          go_wp2_with fail
          refine (hOi.out _).mono ?_
          rintro e w15 ⟨rfl, hb⟩
          clear ebA0 ebA1 ebA2 ebA3 ebA4 zbA ebB0 ebB1 ebB2 ebB3 ebB4 zbB
          replace bA := bA.all hb
          replace bB := bB.all hb
          replace R := R.all hb HB.size
          replace HB := HB.trans (hb.mono HB.size)
          clear hb
          have ebA0 := bA.cell 0
          have ebA1 := bA.cell 1
          have ebA2 := bA.cell 2
          have ebA3 := bA.cell 3
          have ebA4 := bA.cell 4
          have zbA := bA.lt
          have ebB0 := bB.cell 0
          have ebB1 := bB.cell 1
          have ebB2 := bB.cell 2
          have ebB3 := bB.cell 3
          have ebB4 := bB.cell 4
          have zbB := bB.lt
          go_wp2_with fail
          refine (hOs.out _).mono ?_
          rintro e w16 ⟨rfl, hb⟩
          clear ebA0 ebA1 ebA2 ebA3 ebA4 zbA ebB0 ebB1 ebB2 ebB3 ebB4 zbB
          replace bA := bA.all hb
          replace bB := bB.all hb
          replace R := R.all hb HB.size
          replace HB := HB.trans (hb.mono HB.size)
          clear hb
          clear hOi hOs
          cases b1
          case false =>
            obtain rfl : kw = false := by simpa using HKW.out
            have ebA0 := bA.cell 0
            have ebA1 := bA.cell 1
            have ebA2 := bA.cell 2
            have ebA3 := bA.cell 3
            have ebA4 := bA.cell 4
            have zbA := bA.lt
            have ebB0 := bB.cell 0
            have ebB1 := bB.cell 1
            have ebB2 := bB.cell 2
            have ebB3 := bB.cell 3
            have ebB4 := bB.cell 4
            have zbB := bB.lt
            go_wp2_with fail
            refine (implAreRates_eq x _ false H1.out).mono ?_
            rintro e w17 ⟨rfl, hb⟩
            clear ebA0 ebA1 ebA2 ebA3 ebA4 zbA ebB0 ebB1 ebB2 ebB3 ebB4 zbB
            replace bA := bA.all hb
            replace bB := bB.all hb
            replace R := R.all hb HB.size
            replace HB := HB.trans (hb.mono HB.size)
            clear hb
            go_wp2
            go_ret
            exact ⟨ret_bool (by simp), HB⟩
          case true =>
            obtain rfl : kw = b2 := by simpa using HKW.out
            have ebA0 := bA.cell 0
            have ebA1 := bA.cell 1
            have ebA2 := bA.cell 2
            have ebA3 := bA.cell 3
            have ebA4 := bA.cell 4
            have zbA := bA.lt
            have ebB0 := bB.cell 0
            have ebB1 := bB.cell 1
            have ebB2 := bB.cell 2
            have ebB3 := bB.cell 3
            have ebB4 := bB.cell 4
            have zbB := bB.lt
            go_wp2_with fail
            refine (implAreRates_eq x _ true H1.out).mono ?_
            rintro e w17 ⟨rfl, hb⟩
            clear ebA0 ebA1 ebA2 ebA3 ebA4 zbA ebB0 ebB1 ebB2 ebB3 ebB4 zbB
            replace bA := bA.all hb
            replace bB := bB.all hb
            replace R := R.all hb HB.size
            replace HB := HB.trans (hb.mono HB.size)
            clear hb
            have ebA0 := bA.cell 0
            have ebA1 := bA.cell 1
            have ebA2 := bA.cell 2
            have ebA3 := bA.cell 3
            have ebA4 := bA.cell 4
            have zbA := bA.lt
            have ebB0 := bB.cell 0
            have ebB1 := bB.cell 1
            have ebB2 := bB.cell 2
            have ebB3 := bB.cell 3
            have ebB4 := bB.cell 4
            have zbB := bB.lt
            go_wp2_with fail
            refine (implIsWorkSheet_eq s _ kw H2.out).mono ?_
            rintro e w18 ⟨rfl, hb⟩
            clear ebA0 ebA1 ebA2 ebA3 ebA4 zbA ebB0 ebB1 ebB2 ebB3 ebB4 zbB
            replace bA := bA.all hb
            replace bB := bB.all hb
            replace R := R.all hb HB.size
            replace HB := HB.trans (hb.mono HB.size)
            clear hb
            go_wp2
            go_ret
            exact ⟨ret_bool (by simp), HB⟩
    case true =>
      obtain ⟨hx12, hs1, ht0, g1, g2, g3⟩ := HF.out rfl
      have HS0 := Lib.hid g2
      have HS1 := Lib.hid (g3.trans (HQ.out rfl).symm)
      clear HF g1 g2 g3 HQ HT
      have hrs := OB.rd
      go_wp2_with fail
      refine (rSum_eq _ _ _ _ S _ q0 hrs hs1 HS0 HS1).mono ?_
      rintro e w' ⟨rfl, rfl⟩
      have hg0 : (q0 != q0) = false := by simp
      clear hrs HS0 HS1
      clear OB
      go_wp2_with fail
      refine (drawKnotsForWage_any A n c w.heap.size _ R HB.size hn).mono ?_
      rintro e w6 ⟨q, t, rfl, hq, ht, hb⟩
      replace R := R.all hb HB.size
      replace HB := HB.trans (hb.mono HB.size)
      clear hb
      replace R := R.alloc HB.size (.cells #[.int .i64 q.f0, .int .i64 q.f1, .int .i64 q.f2, .int .i64 q.f3, .int .i64 q.f4] 25)
      have bQ := Blk.new w6 #[.int .i64 q.f0, .int .i64 q.f1, .int .i64 q.f2, .int .i64 q.f3, .int .i64 q.f4] 25
      replace HB := HB.alloc HB.size (.cells #[.int .i64 q.f0, .int .i64 q.f1, .int .i64 q.f2, .int .i64 q.f3, .int .i64 q.f4] 25)
      obtain ⟨kn, hkn⟩ : ∃ z, (knots14 q t).1 = z := ⟨_, rfl⟩
      obtain ⟨fine, hfine⟩ : ∃ z, (knots14 q t).2 = z := ⟨_, rfl⟩
      have hKi : Hid (∀ (w : World), Calls Try.prog 13 #[.agg #[.int .i64 q.f0, .int .i64 q.f1, .int .i64 q.f2, .int .i64 q.f3, .int .i64 q.f4], .int .i64 t] w (Out w (.tuple #[.int .i64 kn, .bool fine]))) := Lib.hid fun w => (by have := implKnotsForWage_any q t w; rw [hkn, hfine] at this; exact this)
      have hKs : Hid (∀ (w : World), Calls Try.prog 14 #[.agg #[.int .i64 q.f0, .int .i64 q.f1, .int .i64 q.f2, .int .i64 q.f3, .int .i64 q.f4], .int .i64 t] w (Out w (.tuple #[.int .i64 kn, .bool fine]))) := Lib.hid fun w => (by have := specKnotsForWage_any q t w; rw [hkn, hfine] at this; exact this)
      have HKF : Hid (fine = true → (0 ≤ kn ∧ kn ≤ 12000) ∧ (0 ≤ t ∧ t ≤ 1000000) ∧ (∃ z : Int, wage14 q (sheetK kn) = (z, true) ∧ t ≤ z ∧ (0 ≤ z ∧ z ≤ 1000000)) ∧ (∃ (z : Int) (b : Bool), wage14 q (sheetK (kn - 1)) = (z, b) ∧ (0 ≤ z ∧ z ≤ 1000000) ∧ (b = true → z < t))) := Lib.hid fun hh => knots_facts hkn (hfine.trans hh)
      clear hkn hfine hq ht
      have ebQ0 := bQ.cell 0
      have ebQ1 := bQ.cell 1
      have ebQ2 := bQ.cell 2
      have ebQ3 := bQ.cell 3
      have ebQ4 := bQ.cell 4
      have zbQ := bQ.lt
      go_wp2_with fail
      refine (hKi.out _).mono ?_
      rintro e w7 ⟨rfl, hb⟩
      clear ebQ0 ebQ1 ebQ2 ebQ3 ebQ4 zbQ
      replace bQ := bQ.all hb
      replace R := R.all hb HB.size
      replace HB := HB.trans (hb.mono HB.size)
      clear hb
      have ebQ0 := bQ.cell 0
      have ebQ1 := bQ.cell 1
      have ebQ2 := bQ.cell 2
      have ebQ3 := bQ.cell 3
      have ebQ4 := bQ.cell 4
      have zbQ := bQ.lt
      go_wp2_with fail
      refine (hKs.out _).mono ?_
      rintro e w8 ⟨rfl, hb⟩
      clear ebQ0 ebQ1 ebQ2 ebQ3 ebQ4 zbQ
      replace bQ := bQ.all hb
      replace R := R.all hb HB.size
      replace HB := HB.trans (hb.mono HB.size)
      clear hb
      clear hKi hKs
      cases fine
      case false =>
        clear HKF
        clear bQ
        go_wp2_with fail
        refine (drawWagesBetween_any A n c w.heap.size _ R HB.size hn).mono ?_
        rintro e w9 ⟨p, A7, c7, ls, v, f, t2, rfl, hp, hll, hv, hf, ht2, own, hb⟩
        replace R := R.all hb HB.size
        have OL := own.mono HB.size
        clear own
        replace HB := HB.trans (hb.mono HB.size)
        clear hb
        replace OL := OL.alloc (.cells #[.int .i64 p.f0, .int .i64 p.f1, .int .i64 p.f2, .int .i64 p.f3, .int .i64 p.f4] 25)
        replace R := R.alloc HB.size (.cells #[.int .i64 p.f0, .int .i64 p.f1, .int .i64 p.f2, .int .i64 p.f3, .int .i64 p.f4] 25)
        have bP := Blk.new w9 #[.int .i64 p.f0, .int .i64 p.f1, .int .i64 p.f2, .int .i64 p.f3, .int .i64 p.f4] 25
        replace HB := HB.alloc HB.size (.cells #[.int .i64 p.f0, .int .i64 p.f1, .int .i64 p.f2, .int .i64 p.f3, .int .i64 p.f4] 25)
        obtain ⟨su, hsu⟩ : ∃ z, (between14 p ls v f t2).1 = z := ⟨_, rfl⟩
        obtain ⟨tw, htw⟩ : ∃ z, (between14 p ls v f t2).2 = z := ⟨_, rfl⟩
        have hWi : Hid (∀ (w : World) (A : Option Addr) (c : Nat), RdF workSheetF w w.heap.size A ls.length c ls → Calls Try.prog 16 #[.agg #[.int .i64 p.f0, .int .i64 p.f1, .int .i64 p.f2, .int .i64 p.f3, .int .i64 p.f4], .slice A ls.length c, .int .i64 v, .int .i64 f, .int .i64 t2] w (Out w (.tuple #[.int .i64 su, .bool tw]))) := Lib.hid fun w A c h => (by have := implWagesBetween_any p A _ c _ ls v f t2 w h (Nat.le_refl _); rw [hsu, htw] at this; exact this)
        have hWs : Hid (∀ (w : World) (A : Option Addr) (c : Nat), RdF workSheetF w w.heap.size A ls.length c ls → Calls Try.prog 17 #[.agg #[.int .i64 p.f0, .int .i64 p.f1, .int .i64 p.f2, .int .i64 p.f3, .int .i64 p.f4], .slice A ls.length c, .int .i64 v, .int .i64 f, .int .i64 t2] w (Out w (.tuple #[.int .i64 su, .bool tw]))) := Lib.hid fun w A c h => (by have := specWagesBetween_any p A _ c _ ls v f t2 w h (Nat.le_refl _); rw [hsu, htw] at this; exact this)
        have hs0 : 0 ≤ su := hsu ▸ between_nn p ls v f t2
        have hs1 : decide (su < 0) = false := decide_eq_false (by omega)
        clear hsu htw hll hv hf ht2 hp
        have ebP0 := bP.cell 0
        have ebP1 := bP.cell 1
        have ebP2 := bP.cell 2
        have ebP3 := bP.cell 3
        have ebP4 := bP.cell 4
        have zbP := bP.lt
        go_wp2_with fail
        refine (hWi.out _ _ _ OL.rd).mono ?_
        rintro e w10 ⟨rfl, hb⟩
        clear ebP0 ebP1 ebP2 ebP3 ebP4 zbP
        replace OL := OL.all hb
        replace bP := bP.all hb
        replace R := R.all hb HB.size
        replace HB := HB.trans (hb.mono HB.size)
        clear hb
        have ebP0 := bP.cell 0
        have ebP1 := bP.cell 1
        have ebP2 := bP.cell 2
        have ebP3 := bP.cell 3
        have ebP4 := bP.cell 4
        have zbP := bP.lt
        go_wp2_with fail
        refine (hWs.out _ _ _ OL.rd).mono ?_
        rintro e w11 ⟨rfl, hb⟩
        clear ebP0 ebP1 ebP2 ebP3 ebP4 zbP
        replace OL := OL.all hb
        replace bP := bP.all hb
        replace R := R.all hb HB.size
        replace HB := HB.trans (hb.mono HB.size)
        clear hb
        clear hWi hWs
        clear OL bP
        go_wp2_with fail
        refine (drawWageOf_any A n c w.heap.size _ R HB.size hn).mono ?_
        rintro e w12 ⟨x, s, rfl, hx, hs, hb⟩
        replace R := R.all hb HB.size
        replace HB := HB.trans (hb.mono HB.size)
        clear hb
        replace R := R.alloc HB.size (.cells #[.int .i64 x.f0, .int .i64 x.f1, .int .i64 x.f2, .int .i64 x.f3, .int .i64 x.f4] 25)
        have bA := Blk.new w12 #[.int .i64 x.f0, .int .i64 x.f1, .int .i64 x.f2, .int .i64 x.f3, .int .i64 x.f4] 25
        replace HB := HB.alloc HB.size (.cells #[.int .i64 x.f0, .int .i64 x.f1, .int .i64 x.f2, .int .i64 x.f3, .int .i64 x.f4] 25)
        replace bA := bA.alloc (.cells #[.int .i64 s.f0, .int .i64 s.f1, .int .i64 s.f2, .int .i64 s.f3, .int .i64 s.f4] 36)
        replace R := R.alloc HB.size (.cells #[.int .i64 s.f0, .int .i64 s.f1, .int .i64 s.f2, .int .i64 s.f3, .int .i64 s.f4] 36)
        have bB := Blk.new (w12.alloc (.cells #[.int .i64 x.f0, .int .i64 x.f1, .int .i64 x.f2, .int .i64 x.f3, .int .i64 x.f4] 25)) #[.int .i64 s.f0, .int .i64 s.f1, .int .i64 s.f2, .int .i64 s.f3, .int .i64 s.f4] 36
        replace HB := HB.alloc HB.size (.cells #[.int .i64 s.f0, .int .i64 s.f1, .int .i64 s.f2, .int .i64 s.f3, .int .i64 s.f4] 36)
        replace bB := bB.at_ (q := w12.heap.size + 1) (by simp)
        obtain ⟨wv, hwv⟩ : ∃ z, (wage14 x s).1 = z := ⟨_, rfl⟩
        obtain ⟨kw, hkw⟩ : ∃ z, (wage14 x s).2 = z := ⟨_, rfl⟩
        obtain ⟨b1, hb1⟩ : ∃ z, ratesB x = z := ⟨_, rfl⟩
        obtain ⟨b2, hb2⟩ : ∃ z, sheetB s = z := ⟨_, rfl⟩
        have hOi : Hid (∀ (w : World), Calls Try.prog 9 #[.agg #[.int .i64 x.f0, .int .i64 x.f1, .int .i64 x.f2, .int .i64 x.f3, .int .i64 x.f4], .agg #[.int .i64 s.f0, .int .i64 s.f1, .int .i64 s.f2, .int .i64 s.f3, .int .i64 s.f4]] w (Out w (.tuple #[.int .i64 wv, .bool kw]))) := Lib.hid fun w => (by have := implWageOf_any x s w; rw [hwv, hkw] at this; exact this)
        have hOs : Hid (∀ (w : World), Calls Try.prog 19 #[.agg #[.int .i64 x.f0, .int .i64 x.f1, .int .i64 x.f2, .int .i64 x.f3, .int .i64 x.f4], .agg #[.int .i64 s.f0, .int .i64 s.f1, .int .i64 s.f2, .int .i64 s.f3, .int .i64 s.f4]] w (Out w (.tuple #[.int .i64 wv, .bool kw]))) := Lib.hid fun w => (by have := specWageOf_any x s w; rw [hwv, hkw] at this; exact this)
        have HKW : Hid (kw = (b1 && b2)) := Lib.hid (by rw [← hkw, ← hb1, ← hb2]; exact wage14_ok x s)
        have H1 := Lib.hid hb1
        have H2 := Lib.hid hb2
        clear hwv hkw hb1 hb2 hx hs hs0 hs1
        have ebA0 := bA.cell 0
        have ebA1 := bA.cell 1
        have ebA2 := bA.cell 2
        have ebA3 := bA.cell 3
        have ebA4 := bA.cell 4
        have zbA := bA.lt
        have ebB0 := bB.cell 0
        have ebB1 := bB.cell 1
        have ebB2 := bB.cell 2
        have ebB3 := bB.cell 3
        have ebB4 := bB.cell 4
        have zbB := bB.lt
        go_wp2_with fail
        refine (hOi.out _).mono ?_
        rintro e w13 ⟨rfl, hb⟩
        clear ebA0 ebA1 ebA2 ebA3 ebA4 zbA ebB0 ebB1 ebB2 ebB3 ebB4 zbB
        replace bA := bA.all hb
        replace bB := bB.all hb
        replace R := R.all hb HB.size
        replace HB := HB.trans (hb.mono HB.size)
        clear hb
        have ebA0 := bA.cell 0
        have ebA1 := bA.cell 1
        have ebA2 := bA.cell 2
        have ebA3 := bA.cell 3
        have ebA4 := bA.cell 4
        have zbA := bA.lt
        have ebB0 := bB.cell 0
        have ebB1 := bB.cell 1
        have ebB2 := bB.cell 2
        have ebB3 := bB.cell 3
        have ebB4 := bB.cell 4
        have zbB := bB.lt
        go_wp2_with fail
        refine (hOs.out _).mono ?_
        rintro e w14 ⟨rfl, hb⟩
        clear ebA0 ebA1 ebA2 ebA3 ebA4 zbA ebB0 ebB1 ebB2 ebB3 ebB4 zbB
        replace bA := bA.all hb
        replace bB := bB.all hb
        replace R := R.all hb HB.size
        replace HB := HB.trans (hb.mono HB.size)
        clear hb
        clear hOi hOs
        cases b1
        case false =>
          obtain rfl : kw = false := by simpa using HKW.out
          have ebA0 := bA.cell 0
          have ebA1 := bA.cell 1
          have ebA2 := bA.cell 2
          have ebA3 := bA.cell 3
          have ebA4 := bA.cell 4
          have zbA := bA.lt
          have ebB0 := bB.cell 0
          have ebB1 := bB.cell 1
          have ebB2 := bB.cell 2
          have ebB3 := bB.cell 3
          have ebB4 := bB.cell 4
          have zbB := bB.lt
          go_wp2_with fail
          refine (implAreRates_eq x _ false H1.out).mono ?_
          rintro e w15 ⟨rfl, hb⟩
          clear ebA0 ebA1 ebA2 ebA3 ebA4 zbA ebB0 ebB1 ebB2 ebB3 ebB4 zbB
          replace bA := bA.all hb
          replace bB := bB.all hb
          replace R := R.all hb HB.size
          replace HB := HB.trans (hb.mono HB.size)
          clear hb
          go_wp2
          go_ret
          exact ⟨ret_bool (by simp), HB⟩
        case true =>
          obtain rfl : kw = b2 := by simpa using HKW.out
          have ebA0 := bA.cell 0
          have ebA1 := bA.cell 1
          have ebA2 := bA.cell 2
          have ebA3 := bA.cell 3
          have ebA4 := bA.cell 4
          have zbA := bA.lt
          have ebB0 := bB.cell 0
          have ebB1 := bB.cell 1
          have ebB2 := bB.cell 2
          have ebB3 := bB.cell 3
          have ebB4 := bB.cell 4
          have zbB := bB.lt
          go_wp2_with fail
          refine (implAreRates_eq x _ true H1.out).mono ?_
          rintro e w15 ⟨rfl, hb⟩
          clear ebA0 ebA1 ebA2 ebA3 ebA4 zbA ebB0 ebB1 ebB2 ebB3 ebB4 zbB
          replace bA := bA.all hb
          replace bB := bB.all hb
          replace R := R.all hb HB.size
          replace HB := HB.trans (hb.mono HB.size)
          clear hb
          have ebA0 := bA.cell 0
          have ebA1 := bA.cell 1
          have ebA2 := bA.cell 2
          have ebA3 := bA.cell 3
          have ebA4 := bA.cell 4
          have zbA := bA.lt
          have ebB0 := bB.cell 0
          have ebB1 := bB.cell 1
          have ebB2 := bB.cell 2
          have ebB3 := bB.cell 3
          have ebB4 := bB.cell 4
          have zbB := bB.lt
          go_wp2_with fail
          refine (implIsWorkSheet_eq s _ kw H2.out).mono ?_
          rintro e w16 ⟨rfl, hb⟩
          clear ebA0 ebA1 ebA2 ebA3 ebA4 zbA ebB0 ebB1 ebB2 ebB3 ebB4 zbB
          replace bA := bA.all hb
          replace bB := bB.all hb
          replace R := R.all hb HB.size
          replace HB := HB.trans (hb.mono HB.size)
          clear hb
          go_wp2
          go_ret
          exact ⟨ret_bool (by simp), HB⟩
      case true =>
        obtain ⟨hk0, ht0, ⟨z, e1, z0, z1⟩, z2, b, e2, y0, y1⟩ := HKF.out rfl
        have hV1 : Hid (∀ (w : World), Calls Try.prog 9 #[.agg #[.int .i64 q.f0, .int .i64 q.f1, .int .i64 q.f2, .int .i64 q.f3, .int .i64 q.f4], .agg #[.int .i64 1, .int .i64 0, .int .i64 kn, .int .i64 0, .int .i64 0]] w (Out w (.tuple #[.int .i64 z, .bool true]))) := Lib.hid fun w => (by have := implWageOf_any q (sheetK kn) w; rw [e1] at this; exact this)
        have hV2 : Hid (∀ (w : World), Calls Try.prog 9 #[.agg #[.int .i64 q.f0, .int .i64 q.f1, .int .i64 q.f2, .int .i64 q.f3, .int .i64 q.f4], .agg #[.int .i64 1, .int .i64 0, .int .i64 (kn - 1), .int .i64 0, .int .i64 0]] w (Out w (.tuple #[.int .i64 z2, .bool b]))) := Lib.hid fun w => (by have := implWageOf_any q (sheetK (kn - 1)) w; rw [e2] at this; exact this)
        have hw1 : IntKind.i64.wrap (kn - 1) = kn - 1 := IntWalk.i64_in _ (by omega)
        have hd1 : decide (z < t) = false := decide_eq_false (by omega)
        have HY1 := Lib.hid y1
        clear HKF e1 e2 y1
        have ebQ0 := bQ.cell 0
        have ebQ1 := bQ.cell 1
        have ebQ2 := bQ.cell 2
        have ebQ3 := bQ.cell 3
        have ebQ4 := bQ.cell 4
        have zbQ := bQ.lt
        go_wp2_with fail
        refine (hV1.out _).mono ?_
        rintro e w9 ⟨rfl, hb⟩
        clear ebQ0 ebQ1 ebQ2 ebQ3 ebQ4 zbQ
        replace bQ := bQ.all hb
        replace R := R.all hb HB.size
        replace HB := HB.trans (hb.mono HB.size)
        clear hb
        have ebQ0 := bQ.cell 0
        have ebQ1 := bQ.cell 1
        have ebQ2 := bQ.cell 2
        have ebQ3 := bQ.cell 3
        have ebQ4 := bQ.cell 4
        have zbQ := bQ.lt
        go_wp2_with fail
        refine (hV2.out _).mono ?_
        rintro e w10 ⟨rfl, hb⟩
        clear ebQ0 ebQ1 ebQ2 ebQ3 ebQ4 zbQ
        replace bQ := bQ.all hb
        replace R := R.all hb HB.size
        replace HB := HB.trans (hb.mono HB.size)
        clear hb
        clear hV1 hV2 hw1
        clear bQ
        cases b
        case false =>
          clear HY1
          go_wp2_with fail
          refine (drawWagesBetween_any A n c w.heap.size _ R HB.size hn).mono ?_
          rintro e w11 ⟨p, A7, c7, ls, v, f, t2, rfl, hp, hll, hv, hf, ht2, own, hb⟩
          replace R := R.all hb HB.size
          have OL := own.mono HB.size
          clear own
          replace HB := HB.trans (hb.mono HB.size)
          clear hb
          replace OL := OL.alloc (.cells #[.int .i64 p.f0, .int .i64 p.f1, .int .i64 p.f2, .int .i64 p.f3, .int .i64 p.f4] 25)
          replace R := R.alloc HB.size (.cells #[.int .i64 p.f0, .int .i64 p.f1, .int .i64 p.f2, .int .i64 p.f3, .int .i64 p.f4] 25)
          have bP := Blk.new w11 #[.int .i64 p.f0, .int .i64 p.f1, .int .i64 p.f2, .int .i64 p.f3, .int .i64 p.f4] 25
          replace HB := HB.alloc HB.size (.cells #[.int .i64 p.f0, .int .i64 p.f1, .int .i64 p.f2, .int .i64 p.f3, .int .i64 p.f4] 25)
          obtain ⟨su, hsu⟩ : ∃ z, (between14 p ls v f t2).1 = z := ⟨_, rfl⟩
          obtain ⟨tw, htw⟩ : ∃ z, (between14 p ls v f t2).2 = z := ⟨_, rfl⟩
          have hWi : Hid (∀ (w : World) (A : Option Addr) (c : Nat), RdF workSheetF w w.heap.size A ls.length c ls → Calls Try.prog 16 #[.agg #[.int .i64 p.f0, .int .i64 p.f1, .int .i64 p.f2, .int .i64 p.f3, .int .i64 p.f4], .slice A ls.length c, .int .i64 v, .int .i64 f, .int .i64 t2] w (Out w (.tuple #[.int .i64 su, .bool tw]))) := Lib.hid fun w A c h => (by have := implWagesBetween_any p A _ c _ ls v f t2 w h (Nat.le_refl _); rw [hsu, htw] at this; exact this)
          have hWs : Hid (∀ (w : World) (A : Option Addr) (c : Nat), RdF workSheetF w w.heap.size A ls.length c ls → Calls Try.prog 17 #[.agg #[.int .i64 p.f0, .int .i64 p.f1, .int .i64 p.f2, .int .i64 p.f3, .int .i64 p.f4], .slice A ls.length c, .int .i64 v, .int .i64 f, .int .i64 t2] w (Out w (.tuple #[.int .i64 su, .bool tw]))) := Lib.hid fun w A c h => (by have := specWagesBetween_any p A _ c _ ls v f t2 w h (Nat.le_refl _); rw [hsu, htw] at this; exact this)
          have hs0 : 0 ≤ su := hsu ▸ between_nn p ls v f t2
          have hs1 : decide (su < 0) = false := decide_eq_false (by omega)
          clear hsu htw hll hv hf ht2 hp
          have ebP0 := bP.cell 0
          have ebP1 := bP.cell 1
          have ebP2 := bP.cell 2
          have ebP3 := bP.cell 3
          have ebP4 := bP.cell 4
          have zbP := bP.lt
          go_wp2_with fail
          refine (hWi.out _ _ _ OL.rd).mono ?_
          rintro e w12 ⟨rfl, hb⟩
          clear ebP0 ebP1 ebP2 ebP3 ebP4 zbP
          replace OL := OL.all hb
          replace bP := bP.all hb
          replace R := R.all hb HB.size
          replace HB := HB.trans (hb.mono HB.size)
          clear hb
          have ebP0 := bP.cell 0
          have ebP1 := bP.cell 1
          have ebP2 := bP.cell 2
          have ebP3 := bP.cell 3
          have ebP4 := bP.cell 4
          have zbP := bP.lt
          go_wp2_with fail
          refine (hWs.out _ _ _ OL.rd).mono ?_
          rintro e w13 ⟨rfl, hb⟩
          clear ebP0 ebP1 ebP2 ebP3 ebP4 zbP
          replace OL := OL.all hb
          replace bP := bP.all hb
          replace R := R.all hb HB.size
          replace HB := HB.trans (hb.mono HB.size)
          clear hb
          clear hWi hWs
          clear OL bP
          go_wp2_with fail
          refine (drawWageOf_any A n c w.heap.size _ R HB.size hn).mono ?_
          rintro e w14 ⟨x, s, rfl, hx, hs, hb⟩
          replace R := R.all hb HB.size
          replace HB := HB.trans (hb.mono HB.size)
          clear hb
          replace R := R.alloc HB.size (.cells #[.int .i64 x.f0, .int .i64 x.f1, .int .i64 x.f2, .int .i64 x.f3, .int .i64 x.f4] 25)
          have bA := Blk.new w14 #[.int .i64 x.f0, .int .i64 x.f1, .int .i64 x.f2, .int .i64 x.f3, .int .i64 x.f4] 25
          replace HB := HB.alloc HB.size (.cells #[.int .i64 x.f0, .int .i64 x.f1, .int .i64 x.f2, .int .i64 x.f3, .int .i64 x.f4] 25)
          replace bA := bA.alloc (.cells #[.int .i64 s.f0, .int .i64 s.f1, .int .i64 s.f2, .int .i64 s.f3, .int .i64 s.f4] 36)
          replace R := R.alloc HB.size (.cells #[.int .i64 s.f0, .int .i64 s.f1, .int .i64 s.f2, .int .i64 s.f3, .int .i64 s.f4] 36)
          have bB := Blk.new (w14.alloc (.cells #[.int .i64 x.f0, .int .i64 x.f1, .int .i64 x.f2, .int .i64 x.f3, .int .i64 x.f4] 25)) #[.int .i64 s.f0, .int .i64 s.f1, .int .i64 s.f2, .int .i64 s.f3, .int .i64 s.f4] 36
          replace HB := HB.alloc HB.size (.cells #[.int .i64 s.f0, .int .i64 s.f1, .int .i64 s.f2, .int .i64 s.f3, .int .i64 s.f4] 36)
          replace bB := bB.at_ (q := w14.heap.size + 1) (by simp)
          obtain ⟨wv, hwv⟩ : ∃ z, (wage14 x s).1 = z := ⟨_, rfl⟩
          obtain ⟨kw, hkw⟩ : ∃ z, (wage14 x s).2 = z := ⟨_, rfl⟩
          obtain ⟨b1, hb1⟩ : ∃ z, ratesB x = z := ⟨_, rfl⟩
          obtain ⟨b2, hb2⟩ : ∃ z, sheetB s = z := ⟨_, rfl⟩
          have hOi : Hid (∀ (w : World), Calls Try.prog 9 #[.agg #[.int .i64 x.f0, .int .i64 x.f1, .int .i64 x.f2, .int .i64 x.f3, .int .i64 x.f4], .agg #[.int .i64 s.f0, .int .i64 s.f1, .int .i64 s.f2, .int .i64 s.f3, .int .i64 s.f4]] w (Out w (.tuple #[.int .i64 wv, .bool kw]))) := Lib.hid fun w => (by have := implWageOf_any x s w; rw [hwv, hkw] at this; exact this)
          have hOs : Hid (∀ (w : World), Calls Try.prog 19 #[.agg #[.int .i64 x.f0, .int .i64 x.f1, .int .i64 x.f2, .int .i64 x.f3, .int .i64 x.f4], .agg #[.int .i64 s.f0, .int .i64 s.f1, .int .i64 s.f2, .int .i64 s.f3, .int .i64 s.f4]] w (Out w (.tuple #[.int .i64 wv, .bool kw]))) := Lib.hid fun w => (by have := specWageOf_any x s w; rw [hwv, hkw] at this; exact this)
          have HKW : Hid (kw = (b1 && b2)) := Lib.hid (by rw [← hkw, ← hb1, ← hb2]; exact wage14_ok x s)
          have H1 := Lib.hid hb1
          have H2 := Lib.hid hb2
          clear hwv hkw hb1 hb2 hx hs hs0 hs1
          have ebA0 := bA.cell 0
          have ebA1 := bA.cell 1
          have ebA2 := bA.cell 2
          have ebA3 := bA.cell 3
          have ebA4 := bA.cell 4
          have zbA := bA.lt
          have ebB0 := bB.cell 0
          have ebB1 := bB.cell 1
          have ebB2 := bB.cell 2
          have ebB3 := bB.cell 3
          have ebB4 := bB.cell 4
          have zbB := bB.lt
          go_wp2_with fail
          refine (hOi.out _).mono ?_
          rintro e w15 ⟨rfl, hb⟩
          clear ebA0 ebA1 ebA2 ebA3 ebA4 zbA ebB0 ebB1 ebB2 ebB3 ebB4 zbB
          replace bA := bA.all hb
          replace bB := bB.all hb
          replace R := R.all hb HB.size
          replace HB := HB.trans (hb.mono HB.size)
          clear hb
          have ebA0 := bA.cell 0
          have ebA1 := bA.cell 1
          have ebA2 := bA.cell 2
          have ebA3 := bA.cell 3
          have ebA4 := bA.cell 4
          have zbA := bA.lt
          have ebB0 := bB.cell 0
          have ebB1 := bB.cell 1
          have ebB2 := bB.cell 2
          have ebB3 := bB.cell 3
          have ebB4 := bB.cell 4
          have zbB := bB.lt
          go_wp2_with fail
          refine (hOs.out _).mono ?_
          rintro e w16 ⟨rfl, hb⟩
          clear ebA0 ebA1 ebA2 ebA3 ebA4 zbA ebB0 ebB1 ebB2 ebB3 ebB4 zbB
          replace bA := bA.all hb
          replace bB := bB.all hb
          replace R := R.all hb HB.size
          replace HB := HB.trans (hb.mono HB.size)
          clear hb
          clear hOi hOs
          cases b1
          case false =>
            obtain rfl : kw = false := by simpa using HKW.out
            have ebA0 := bA.cell 0
            have ebA1 := bA.cell 1
            have ebA2 := bA.cell 2
            have ebA3 := bA.cell 3
            have ebA4 := bA.cell 4
            have zbA := bA.lt
            have ebB0 := bB.cell 0
            have ebB1 := bB.cell 1
            have ebB2 := bB.cell 2
            have ebB3 := bB.cell 3
            have ebB4 := bB.cell 4
            have zbB := bB.lt
            go_wp2_with fail
            refine (implAreRates_eq x _ false H1.out).mono ?_
            rintro e w17 ⟨rfl, hb⟩
            clear ebA0 ebA1 ebA2 ebA3 ebA4 zbA ebB0 ebB1 ebB2 ebB3 ebB4 zbB
            replace bA := bA.all hb
            replace bB := bB.all hb
            replace R := R.all hb HB.size
            replace HB := HB.trans (hb.mono HB.size)
            clear hb
            go_wp2
            go_ret
            exact ⟨ret_bool (by simp), HB⟩
          case true =>
            obtain rfl : kw = b2 := by simpa using HKW.out
            have ebA0 := bA.cell 0
            have ebA1 := bA.cell 1
            have ebA2 := bA.cell 2
            have ebA3 := bA.cell 3
            have ebA4 := bA.cell 4
            have zbA := bA.lt
            have ebB0 := bB.cell 0
            have ebB1 := bB.cell 1
            have ebB2 := bB.cell 2
            have ebB3 := bB.cell 3
            have ebB4 := bB.cell 4
            have zbB := bB.lt
            go_wp2_with fail
            refine (implAreRates_eq x _ true H1.out).mono ?_
            rintro e w17 ⟨rfl, hb⟩
            clear ebA0 ebA1 ebA2 ebA3 ebA4 zbA ebB0 ebB1 ebB2 ebB3 ebB4 zbB
            replace bA := bA.all hb
            replace bB := bB.all hb
            replace R := R.all hb HB.size
            replace HB := HB.trans (hb.mono HB.size)
            clear hb
            have ebA0 := bA.cell 0
            have ebA1 := bA.cell 1
            have ebA2 := bA.cell 2
            have ebA3 := bA.cell 3
            have ebA4 := bA.cell 4
            have zbA := bA.lt
            have ebB0 := bB.cell 0
            have ebB1 := bB.cell 1
            have ebB2 := bB.cell 2
            have ebB3 := bB.cell 3
            have ebB4 := bB.cell 4
            have zbB := bB.lt
            go_wp2_with fail
            refine (implIsWorkSheet_eq s _ kw H2.out).mono ?_
            rintro e w18 ⟨rfl, hb⟩
            clear ebA0 ebA1 ebA2 ebA3 ebA4 zbA ebB0 ebB1 ebB2 ebB3 ebB4 zbB
            replace bA := bA.all hb
            replace bB := bB.all hb
            replace R := R.all hb HB.size
            replace HB := HB.trans (hb.mono HB.size)
            clear hb
            go_wp2
            go_ret
            exact ⟨ret_bool (by simp), HB⟩
        case true =>
          have h7 := HY1.out rfl
          have hd2 : decide (t ≤ z2) = false := decide_eq_false (by omega)
          clear HY1
          go_wp2_with fail
          refine (drawWagesBetween_any A n c w.heap.size _ R HB.size hn).mono ?_
          rintro e w11 ⟨p, A7, c7, ls, v, f, t2, rfl, hp, hll, hv, hf, ht2, own, hb⟩
          replace R := R.all hb HB.size
          have OL := own.mono HB.size
          clear own
          replace HB := HB.trans (hb.mono HB.size)
          clear hb
          replace OL := OL.alloc (.cells #[.int .i64 p.f0, .int .i64 p.f1, .int .i64 p.f2, .int .i64 p.f3, .int .i64 p.f4] 25)
          replace R := R.alloc HB.size (.cells #[.int .i64 p.f0, .int .i64 p.f1, .int .i64 p.f2, .int .i64 p.f3, .int .i64 p.f4] 25)
          have bP := Blk.new w11 #[.int .i64 p.f0, .int .i64 p.f1, .int .i64 p.f2, .int .i64 p.f3, .int .i64 p.f4] 25
          replace HB := HB.alloc HB.size (.cells #[.int .i64 p.f0, .int .i64 p.f1, .int .i64 p.f2, .int .i64 p.f3, .int .i64 p.f4] 25)
          obtain ⟨su, hsu⟩ : ∃ z, (between14 p ls v f t2).1 = z := ⟨_, rfl⟩
          obtain ⟨tw, htw⟩ : ∃ z, (between14 p ls v f t2).2 = z := ⟨_, rfl⟩
          have hWi : Hid (∀ (w : World) (A : Option Addr) (c : Nat), RdF workSheetF w w.heap.size A ls.length c ls → Calls Try.prog 16 #[.agg #[.int .i64 p.f0, .int .i64 p.f1, .int .i64 p.f2, .int .i64 p.f3, .int .i64 p.f4], .slice A ls.length c, .int .i64 v, .int .i64 f, .int .i64 t2] w (Out w (.tuple #[.int .i64 su, .bool tw]))) := Lib.hid fun w A c h => (by have := implWagesBetween_any p A _ c _ ls v f t2 w h (Nat.le_refl _); rw [hsu, htw] at this; exact this)
          have hWs : Hid (∀ (w : World) (A : Option Addr) (c : Nat), RdF workSheetF w w.heap.size A ls.length c ls → Calls Try.prog 17 #[.agg #[.int .i64 p.f0, .int .i64 p.f1, .int .i64 p.f2, .int .i64 p.f3, .int .i64 p.f4], .slice A ls.length c, .int .i64 v, .int .i64 f, .int .i64 t2] w (Out w (.tuple #[.int .i64 su, .bool tw]))) := Lib.hid fun w A c h => (by have := specWagesBetween_any p A _ c _ ls v f t2 w h (Nat.le_refl _); rw [hsu, htw] at this; exact this)
          have hs0 : 0 ≤ su := hsu ▸ between_nn p ls v f t2
          have hs1 : decide (su < 0) = false := decide_eq_false (by omega)
          clear hsu htw hll hv hf ht2 hp
          have ebP0 := bP.cell 0
          have ebP1 := bP.cell 1
          have ebP2 := bP.cell 2
          have ebP3 := bP.cell 3
          have ebP4 := bP.cell 4
          have zbP := bP.lt
          go_wp2_with fail
          refine (hWi.out _ _ _ OL.rd).mono ?_
          rintro e w12 ⟨rfl, hb⟩
          clear ebP0 ebP1 ebP2 ebP3 ebP4 zbP
          replace OL := OL.all hb
          replace bP := bP.all hb
          replace R := R.all hb HB.size
          replace HB := HB.trans (hb.mono HB.size)
          clear hb
          have ebP0 := bP.cell 0
          have ebP1 := bP.cell 1
          have ebP2 := bP.cell 2
          have ebP3 := bP.cell 3
          have ebP4 := bP.cell 4
          have zbP := bP.lt
          go_wp2_with fail
          refine (hWs.out _ _ _ OL.rd).mono ?_
          rintro e w13 ⟨rfl, hb⟩
          clear ebP0 ebP1 ebP2 ebP3 ebP4 zbP
          replace OL := OL.all hb
          replace bP := bP.all hb
          replace R := R.all hb HB.size
          replace HB := HB.trans (hb.mono HB.size)
          clear hb
          clear hWi hWs
          clear OL bP
          go_wp2_with fail
          refine (drawWageOf_any A n c w.heap.size _ R HB.size hn).mono ?_
          rintro e w14 ⟨x, s, rfl, hx, hs, hb⟩
          replace R := R.all hb HB.size
          replace HB := HB.trans (hb.mono HB.size)
          clear hb
          replace R := R.alloc HB.size (.cells #[.int .i64 x.f0, .int .i64 x.f1, .int .i64 x.f2, .int .i64 x.f3, .int .i64 x.f4] 25)
          have bA := Blk.new w14 #[.int .i64 x.f0, .int .i64 x.f1, .int .i64 x.f2, .int .i64 x.f3, .int .i64 x.f4] 25
          replace HB := HB.alloc HB.size (.cells #[.int .i64 x.f0, .int .i64 x.f1, .int .i64 x.f2, .int .i64 x.f3, .int .i64 x.f4] 25)
          replace bA := bA.alloc (.cells #[.int .i64 s.f0, .int .i64 s.f1, .int .i64 s.f2, .int .i64 s.f3, .int .i64 s.f4] 36)
          replace R := R.alloc HB.size (.cells #[.int .i64 s.f0, .int .i64 s.f1, .int .i64 s.f2, .int .i64 s.f3, .int .i64 s.f4] 36)
          have bB := Blk.new (w14.alloc (.cells #[.int .i64 x.f0, .int .i64 x.f1, .int .i64 x.f2, .int .i64 x.f3, .int .i64 x.f4] 25)) #[.int .i64 s.f0, .int .i64 s.f1, .int .i64 s.f2, .int .i64 s.f3, .int .i64 s.f4] 36
          replace HB := HB.alloc HB.size (.cells #[.int .i64 s.f0, .int .i64 s.f1, .int .i64 s.f2, .int .i64 s.f3, .int .i64 s.f4] 36)
          replace bB := bB.at_ (q := w14.heap.size + 1) (by simp)
          obtain ⟨wv, hwv⟩ : ∃ z, (wage14 x s).1 = z := ⟨_, rfl⟩
          obtain ⟨kw, hkw⟩ : ∃ z, (wage14 x s).2 = z := ⟨_, rfl⟩
          obtain ⟨b1, hb1⟩ : ∃ z, ratesB x = z := ⟨_, rfl⟩
          obtain ⟨b2, hb2⟩ : ∃ z, sheetB s = z := ⟨_, rfl⟩
          have hOi : Hid (∀ (w : World), Calls Try.prog 9 #[.agg #[.int .i64 x.f0, .int .i64 x.f1, .int .i64 x.f2, .int .i64 x.f3, .int .i64 x.f4], .agg #[.int .i64 s.f0, .int .i64 s.f1, .int .i64 s.f2, .int .i64 s.f3, .int .i64 s.f4]] w (Out w (.tuple #[.int .i64 wv, .bool kw]))) := Lib.hid fun w => (by have := implWageOf_any x s w; rw [hwv, hkw] at this; exact this)
          have hOs : Hid (∀ (w : World), Calls Try.prog 19 #[.agg #[.int .i64 x.f0, .int .i64 x.f1, .int .i64 x.f2, .int .i64 x.f3, .int .i64 x.f4], .agg #[.int .i64 s.f0, .int .i64 s.f1, .int .i64 s.f2, .int .i64 s.f3, .int .i64 s.f4]] w (Out w (.tuple #[.int .i64 wv, .bool kw]))) := Lib.hid fun w => (by have := specWageOf_any x s w; rw [hwv, hkw] at this; exact this)
          have HKW : Hid (kw = (b1 && b2)) := Lib.hid (by rw [← hkw, ← hb1, ← hb2]; exact wage14_ok x s)
          have H1 := Lib.hid hb1
          have H2 := Lib.hid hb2
          clear hwv hkw hb1 hb2 hx hs hs0 hs1
          have ebA0 := bA.cell 0
          have ebA1 := bA.cell 1
          have ebA2 := bA.cell 2
          have ebA3 := bA.cell 3
          have ebA4 := bA.cell 4
          have zbA := bA.lt
          have ebB0 := bB.cell 0
          have ebB1 := bB.cell 1
          have ebB2 := bB.cell 2
          have ebB3 := bB.cell 3
          have ebB4 := bB.cell 4
          have zbB := bB.lt
          go_wp2_with fail
          refine (hOi.out _).mono ?_
          rintro e w15 ⟨rfl, hb⟩
          clear ebA0 ebA1 ebA2 ebA3 ebA4 zbA ebB0 ebB1 ebB2 ebB3 ebB4 zbB
          replace bA := bA.all hb
          replace bB := bB.all hb
          replace R := R.all hb HB.size
          replace HB := HB.trans (hb.mono HB.size)
          clear hb
          have ebA0 := bA.cell 0
          have ebA1 := bA.cell 1
          have ebA2 := bA.cell 2
          have ebA3 := bA.cell 3
          have ebA4 := bA.cell 4
          have zbA := bA.lt
          have ebB0 := bB.cell 0
          have ebB1 := bB.cell 1
          have ebB2 := bB.cell 2
          have ebB3 := bB.cell 3
          have ebB4 := bB.cell 4
          have zbB := bB.lt
          go_wp2_with fail
          refine (hOs.out _).mono ?_
          rintro e w16 ⟨rfl, hb⟩
          clear ebA0 ebA1 ebA2 ebA3 ebA4 zbA ebB0 ebB1 ebB2 ebB3 ebB4 zbB
          replace bA := bA.all hb
          replace bB := bB.all hb
          replace R := R.all hb HB.size
          replace HB := HB.trans (hb.mono HB.size)
          clear hb
          clear hOi hOs
          cases b1
          case false =>
            obtain rfl : kw = false := by simpa using HKW.out
            have ebA0 := bA.cell 0
            have ebA1 := bA.cell 1
            have ebA2 := bA.cell 2
            have ebA3 := bA.cell 3
            have ebA4 := bA.cell 4
            have zbA := bA.lt
            have ebB0 := bB.cell 0
            have ebB1 := bB.cell 1
            have ebB2 := bB.cell 2
            have ebB3 := bB.cell 3
            have ebB4 := bB.cell 4
            have zbB := bB.lt
            go_wp2_with fail
            refine (implAreRates_eq x _ false H1.out).mono ?_
            rintro e w17 ⟨rfl, hb⟩
            clear ebA0 ebA1 ebA2 ebA3 ebA4 zbA ebB0 ebB1 ebB2 ebB3 ebB4 zbB
            replace bA := bA.all hb
            replace bB := bB.all hb
            replace R := R.all hb HB.size
            replace HB := HB.trans (hb.mono HB.size)
            clear hb
            go_wp2
            go_ret
            exact ⟨ret_bool (by simp), HB⟩
          case true =>
            obtain rfl : kw = b2 := by simpa using HKW.out
            have ebA0 := bA.cell 0
            have ebA1 := bA.cell 1
            have ebA2 := bA.cell 2
            have ebA3 := bA.cell 3
            have ebA4 := bA.cell 4
            have zbA := bA.lt
            have ebB0 := bB.cell 0
            have ebB1 := bB.cell 1
            have ebB2 := bB.cell 2
            have ebB3 := bB.cell 3
            have ebB4 := bB.cell 4
            have zbB := bB.lt
            go_wp2_with fail
            refine (implAreRates_eq x _ true H1.out).mono ?_
            rintro e w17 ⟨rfl, hb⟩
            clear ebA0 ebA1 ebA2 ebA3 ebA4 zbA ebB0 ebB1 ebB2 ebB3 ebB4 zbB
            replace bA := bA.all hb
            replace bB := bB.all hb
            replace R := R.all hb HB.size
            replace HB := HB.trans (hb.mono HB.size)
            clear hb
            have ebA0 := bA.cell 0
            have ebA1 := bA.cell 1
            have ebA2 := bA.cell 2
            have ebA3 := bA.cell 3
            have ebA4 := bA.cell 4
            have zbA := bA.lt
            have ebB0 := bB.cell 0
            have ebB1 := bB.cell 1
            have ebB2 := bB.cell 2
            have ebB3 := bB.cell 3
            have ebB4 := bB.cell 4
            have zbB := bB.lt
            go_wp2_with fail
            refine (implIsWorkSheet_eq s _ kw H2.out).mono ?_
            rintro e w18 ⟨rfl, hb⟩
            clear ebA0 ebA1 ebA2 ebA3 ebA4 zbA ebB0 ebB1 ebB2 ebB3 ebB4 zbB
            replace bA := bA.all hb
            replace bB := bB.all hb
            replace R := R.all hb HB.size
            replace HB := HB.trans (hb.mono HB.size)
            clear hb
            go_wp2
            go_ret
            exact ⟨ret_bool (by simp), HB⟩
end Go.Proofs.Ytihhlldpdfihfaa
