/- KnotsForWage: the walks, both texts. No condition. -/
import Derived.Test.YtihhlldpdfihfaaSearch14
import Derived.OwnWalk
namespace Go.Proofs.Ytihhlldpdfihfaa
open Go.RowKit

set_option maxRecDepth 100000 in
set_option maxHeartbeats 4000000 in
theorem implKnotsForWage_any (r : RatesR) (cents : Int) (w : World) : Calls Try.prog 13 #[.agg #[.int .i64 r.f0, .int .i64 r.f1, .int .i64 r.f2, .int .i64 r.f3, .int .i64 r.f4], .int .i64 cents] w (Out w (.tuple #[.int .i64 (knots14 r cents).1, .bool (knots14 r cents).2])) := by
  have y0 := (Blk.new w #[.int .i64 r.f0, .int .i64 r.f1, .int .i64 r.f2, .int .i64 r.f3, .int .i64 r.f4] 25).alloc (.cells #[.int .i64 cents] 3)
  have y1 := Blk.new (w.alloc (.cells #[.int .i64 r.f0, .int .i64 r.f1, .int .i64 r.f2, .int .i64 r.f3, .int .i64 r.f4] 25)) #[.int .i64 cents] 3
  rw [show (w.alloc (.cells #[.int .i64 r.f0, .int .i64 r.f1, .int .i64 r.f2, .int .i64 r.f3, .int .i64 r.f4] 25)).heap.size = w.heap.size + 1 by simp] at y1
  have HB : Below w.heap.size w ((w.alloc (.cells #[.int .i64 r.f0, .int .i64 r.f1, .int .i64 r.f2, .int .i64 r.f3, .int .i64 r.f4] 25)).alloc (.cells #[.int .i64 cents] 3)) := by repeat (first | assumption | exact Below.refl _ _ | refine belowN ?_ _ | refine belowD ?_ | (refine Below.setCell ?_ (by first | (simp; done) | (simp; omega) | omega) _) | (refine Below.alloc ?_ (by first | (simp; done) | (simp; omega) | omega) _))
  by_cases hr : ratesB r = true
  rotate_left
  · have hr' := not_false hr
    rw [knots_no (r := r) (cents := cents) fun hh => hr hh.1]
    go_enter Try.func13, Try.ntmps13
    have e00 := y0.cell 0
    have e01 := y0.cell 1
    have e02 := y0.cell 2
    have e03 := y0.cell 3
    have e04 := y0.cell 4
    go_wp2_with fail
    refine (implAreRates_eq r _ _ hr').mono ?_
    rintro e wa ⟨rfl, hb⟩
    clear e00 e01 e02 e03 e04
    replace y0 := y0.all hb
    replace y1 := y1.all hb
    replace HB := HB.trans (hb.mono HB.size)
    clear hb
    go_wp2
    go_ret2
    exact ⟨rfl, HB⟩
  by_cases hc : inB cents 0 1000000 = true
  rotate_left
  · have hc' := not_false hc
    rw [knots_no (r := r) (cents := cents) fun hh => hc hh.2]
    go_enter Try.func13, Try.ntmps13
    have e00 := y0.cell 0
    have e01 := y0.cell 1
    have e02 := y0.cell 2
    have e03 := y0.cell 3
    have e04 := y0.cell 4
    go_wp2_with fail
    refine (implAreRates_eq r _ _ hr).mono ?_
    rintro e wa ⟨rfl, hb⟩
    clear e00 e01 e02 e03 e04
    replace y0 := y0.all hb
    replace y1 := y1.all hb
    replace HB := HB.trans (hb.mono HB.size)
    clear hb
    have e1 := y1.cell 0
    go_wp2_with fail
    refine (isBetween_any _ _ _ _).mono ?_
    rintro e w' ⟨rfl, rfl⟩
    rw [hc']
    go_wp2
    go_ret2
    exact ⟨rfl, HB⟩
  go_enter Try.func13, Try.ntmps13
  have e00 := y0.cell 0
  have e01 := y0.cell 1
  have e02 := y0.cell 2
  have e03 := y0.cell 3
  have e04 := y0.cell 4
  go_wp2_with fail
  refine (implAreRates_eq r _ _ hr).mono ?_
  rintro e wa ⟨rfl, hb⟩
  clear e00 e01 e02 e03 e04
  replace y0 := y0.all hb
  replace y1 := y1.all hb
  replace HB := HB.trans (hb.mono HB.size)
  clear hb
  have e1 := y1.cell 0
  go_wp2_with fail
  refine (isBetween_any _ _ _ _).mono ?_
  rintro e w' ⟨rfl, rfl⟩
  rw [hc]
  clear e1
  go_wp2_with fail
  refine (search14_any _ _ r cents _ hr y0 y1).mono ?_
  rintro e w3 ⟨k, rfl, hk, hb3⟩
  have HB3 := HB.trans (hb3.mono HB.size)
  by_cases hle : k ≤ 12000
  · have H := Lib.hid (knots_at hr hc hk hle)
    clear hk
    go_wp2
    go_ret2
    rw [H.out]
    exact ⟨rfl, HB3⟩
  · have H := Lib.hid (knots_far hr hc hk hle)
    clear hk
    go_wp2
    go_ret2
    rw [H.out]
    exact ⟨rfl, HB3⟩
set_option maxRecDepth 100000 in
set_option maxHeartbeats 4000000 in
theorem specKnotsForWage_any (r : RatesR) (cents : Int) (w : World) : Calls Try.prog 14 #[.agg #[.int .i64 r.f0, .int .i64 r.f1, .int .i64 r.f2, .int .i64 r.f3, .int .i64 r.f4], .int .i64 cents] w (Out w (.tuple #[.int .i64 (knots14 r cents).1, .bool (knots14 r cents).2])) := by
  have y0 := Blk.new w #[.int .i64 r.f0, .int .i64 r.f1, .int .i64 r.f2, .int .i64 r.f3, .int .i64 r.f4] 25
  have HB : Below w.heap.size w (w.alloc (.cells #[.int .i64 r.f0, .int .i64 r.f1, .int .i64 r.f2, .int .i64 r.f3, .int .i64 r.f4] 25)) := by repeat (first | assumption | exact Below.refl _ _ | refine belowN ?_ _ | refine belowD ?_ | (refine Below.setCell ?_ (by first | (simp; done) | (simp; omega) | omega) _) | (refine Below.alloc ?_ (by first | (simp; done) | (simp; omega) | omega) _))
  by_cases hr : ratesB r = true
  rotate_left
  · have hr' := not_false hr
    rw [knots_no (r := r) (cents := cents) fun hh => hr hh.1]
    go_enter Try.func14, Try.ntmps14
    have e00 := y0.cell 0
    have e01 := y0.cell 1
    have e02 := y0.cell 2
    have e03 := y0.cell 3
    have e04 := y0.cell 4
    go_wp2_with fail
    refine (l14Rates_eq r _ _ hr').mono ?_
    rintro e wa ⟨rfl, hb⟩
    clear e00 e01 e02 e03 e04
    replace y0 := y0.all hb
    replace HB := HB.trans (hb.mono HB.size)
    clear hb
    go_wp2
    go_ret2
    exact ⟨rfl, HB⟩
  by_cases hc : inB cents 0 1000000 = true
  rotate_left
  · have hc' := not_false hc
    rw [knots_no (r := r) (cents := cents) fun hh => hc hh.2]
    go_enter Try.func14, Try.ntmps14
    have e00 := y0.cell 0
    have e01 := y0.cell 1
    have e02 := y0.cell 2
    have e03 := y0.cell 3
    have e04 := y0.cell 4
    go_wp2_with fail
    refine (l14Rates_eq r _ _ hr).mono ?_
    rintro e wa ⟨rfl, hb⟩
    clear e00 e01 e02 e03 e04
    replace y0 := y0.all hb
    replace HB := HB.trans (hb.mono HB.size)
    clear hb
    go_wp2_with fail
    refine (l1In_any _ _ _ _).mono ?_
    rintro e w' ⟨rfl, rfl⟩
    rw [hc']
    go_wp2
    go_ret2
    exact ⟨rfl, HB⟩
  obtain ⟨u, hu⟩ : ∃ u, kW r 12000 = u := ⟨_, rfl⟩
  have K1 := Lib.hid (fun w => l14Wage_eq r (plainS 12000) u w hr (plain_knotty (by omega) (by omega)) hu)
  unfold plainS at K1
  simp only at K1
  have HU := Lib.hid hu
  clear hu
  by_cases hlast : u < cents
  · have H := Lib.hid (knots_far (k := 12001) hr hc ⟨fun n hn => by have h1 := kW_mono hr (a := (n : Int)) (b := 12000) (by omega); have h2 := HU.out; omega, fun h => by omega, by omega⟩ (by omega))
    have hd : decide (u < cents) = true := decide_eq_true hlast
    go_enter Try.func14, Try.ntmps14
    have e00 := y0.cell 0
    have e01 := y0.cell 1
    have e02 := y0.cell 2
    have e03 := y0.cell 3
    have e04 := y0.cell 4
    go_wp2_with fail
    refine (l14Rates_eq r _ _ hr).mono ?_
    rintro e wa ⟨rfl, hb⟩
    clear e00 e01 e02 e03 e04
    replace y0 := y0.all hb
    replace HB := HB.trans (hb.mono HB.size)
    clear hb
    go_wp2_with fail
    refine (l1In_any _ _ _ _).mono ?_
    rintro e w' ⟨rfl, rfl⟩
    rw [hc]
    have e00 := y0.cell 0
    have e01 := y0.cell 1
    have e02 := y0.cell 2
    have e03 := y0.cell 3
    have e04 := y0.cell 4
    go_wp2_with fail
    refine (K1.out _).mono ?_
    rintro e wa ⟨rfl, hb⟩
    clear e00 e01 e02 e03 e04
    replace y0 := y0.all hb
    replace HB := HB.trans (hb.mono HB.size)
    clear hb
    go_wp2
    go_ret2
    rw [H.out]
    exact ⟨rfl, HB⟩
  have hd : decide (u < cents) = false := decide_eq_false hlast
  have H0 := Lib.hid (show Halves r cents 12001 0 12000 from ⟨by omega, by omega, fun n h => by omega, fun _ => by show cents ≤ kW r 12000; have := HU.out; omega⟩)
  clear hlast
  go_enter Try.func14, Try.ntmps14
  have e00 := y0.cell 0
  have e01 := y0.cell 1
  have e02 := y0.cell 2
  have e03 := y0.cell 3
  have e04 := y0.cell 4
  go_wp2_with fail
  refine (l14Rates_eq r _ _ hr).mono ?_
  rintro e wa ⟨rfl, hb⟩
  clear e00 e01 e02 e03 e04
  replace y0 := y0.all hb
  replace HB := HB.trans (hb.mono HB.size)
  clear hb
  go_wp2_with fail
  refine (l1In_any _ _ _ _).mono ?_
  rintro e w' ⟨rfl, rfl⟩
  rw [hc]
  have e00 := y0.cell 0
  have e01 := y0.cell 1
  have e02 := y0.cell 2
  have e03 := y0.cell 3
  have e04 := y0.cell 4
  go_wp2_with fail
  refine (K1.out _).mono ?_
  rintro e wa ⟨rfl, hb⟩
  clear e00 e01 e02 e03 e04
  replace y0 := y0.all hb
  replace HB := HB.trans (hb.mono HB.size)
  clear hb
  have HB0 := Lib.hid HB
  clear HB
  go_wp2
  go_loopw [6, 7] (fun s6 s7 wr => ∃ i j : Nat, s6 = .int .i64 i ∧ s7 = .int .i64 j ∧ j ≤ 12000 ∧ Hid (Halves r cents 12001 i j) ∧ Blk wr w.heap.size 25 #[.int .i64 r.f0, .int .i64 r.f1, .int .i64 r.f2, .int .i64 r.f3, .int .i64 r.f4] ∧ Hid (Below w.heap.size w wr)) (fun s6 s7 _ => (intOf s7).toNat - (intOf s6).toNat)
  case atStart => exact ⟨0, 12000, rfl, rfl, by omega, H0, y0, HB0⟩
  case round =>
    clear y0 HB0
    obtain ⟨i, j, rfl, rfl, hj, HH, y0, HB⟩ := hrel
    have hij := HH.out.1
    have hwz := HB.out.size
    by_cases hlt : i < j
    · obtain ⟨h, hh⟩ : ∃ h, (i + j) / 2 = h := ⟨_, rfl⟩
      have hi : i ≤ h := by omega
      have hhj : h < j := by omega
      have HHH := Lib.hid hh
      have gs : IntKind.i64.wrap ((i : Int) + (j : Int)) = ((i + j : Nat) : Int) := by rw [IntWalk.i64_in _ (by omega)]; omega
      have g2 : ((i : Int) + (j : Int)) / 2 = (h : Int) := by omega
      have g3 : Int.tdiv ((i + j : Nat) : Int) 2 = (h : Int) := by rw [Int.tdiv_eq_ediv_of_nonneg (by omega)]; omega
      have g4 : Int.tdiv ((i : Int) + (j : Int)) 2 = (h : Int) := by rw [Int.tdiv_eq_ediv_of_nonneg (by omega)]; omega
      obtain ⟨v, hv⟩ : ∃ v, kW r (h : Int) = v := ⟨_, rfl⟩
      have K2 := Lib.hid (fun w => l14Wage_eq r (plainS (h : Int)) v w hr (plain_knotty (by omega) (by omega)) hv)
      unfold plainS at K2
      simp only at K2
      have HV := Lib.hid hv
      clear hh hv
      have e0 := y0.cell 0
      have e1 := y0.cell 1
      have e2 := y0.cell 2
      have e3 := y0.cell 3
      have e4 := y0.cell 4
      by_cases hk : cents ≤ v
      · have HN := Lib.hid (halves_high HH.out hi hhj (by rw [HV.out]; exact hk))
        go_wp2_with fail
        refine (K2.out _).mono ?_
        rintro e w2 ⟨rfl, hb2⟩
        replace y0 := y0.all hb2
        have HB2 := Lib.hid (HB.out.trans (hb2.mono hwz))
        go_wp2
        go_roundw
        case rel => exact ⟨i, h, rfl, by first | rfl | trivial, by omega, HN, y0, HB2⟩
        case measure => simp [intOf]; omega
      · have HN := Lib.hid (halves_low hr HH.out hhj (by rw [HV.out]; omega))
        go_wp2_with fail
        refine (K2.out _).mono ?_
        rintro e w2 ⟨rfl, hb2⟩
        replace y0 := y0.all hb2
        have HB2 := Lib.hid (HB.out.trans (hb2.mono hwz))
        go_wp2
        go_roundw
        case rel => exact ⟨h + 1, j, by go_num, by first | rfl | trivial, hj, HN, y0, HB2⟩
        case measure => simp [intOf]; omega
    · obtain rfl : i = j := by omega
      have HF := Lib.hid (knots_at hr hc ⟨HH.out.2.2.1, fun h => HH.out.2.2.2 (by omega), by omega⟩ hj)
      go_wp2
      go_ret2
      rw [HF.out]
      exact ⟨rfl, HB.out⟩
end Go.Proofs.Ytihhlldpdfihfaa
