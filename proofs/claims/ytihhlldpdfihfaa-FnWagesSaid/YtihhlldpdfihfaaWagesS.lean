/- Sums of wages and WagesBetween: the walks of the model. Conditions: as they stand. -/
import Derived.Test.YtihhlldpdfihfaaWages
import Derived.Test.YtihhlldpdfihfaaSheetsS
namespace Go.Proofs.Ytihhlldpdfihfaa
open Go.RowKit

def bothP (v f t : Int) (a : WorkSheetR) : Bool := ownP v a && dayP f t a
set_option maxRecDepth 100000 in
set_option maxHeartbeats 4000000 in
theorem l14Sum_any (A : Option Addr) (n c B : Nat) (xs : List WorkSheetR) (r : RatesR) (v f t q : Int) (w : World) (h : RdF workSheetF w B A n c xs) (hB : B ≤ w.heap.size) (hn : n ≤ 1000) (hr : ratesB r = true) (hs : AllS xs) (hq : paid r xs v f t = q) :
    Calls Try.prog 31 #[.agg #[.int .i64 r.f0, .int .i64 r.f1, .int .i64 r.f2, .int .i64 r.f3, .int .i64 r.f4], .slice A n c, .int .i64 v, .int .i64 f, .int .i64 t] w (Out w (.int .i64 q)) := by
  obtain rfl := h.len
  have HS := Lib.hid hs
  have HQ := Lib.hid (show wageSum r (xs.filter (bothP v f t)) = q by rw [← hq, paid_one]; rfl)
  have y0 := Blk.new w #[.int .i64 r.f0, .int .i64 r.f1, .int .i64 r.f2, .int .i64 r.f3, .int .i64 r.f4] 25
  have HB0 : Below w.heap.size w (w.alloc (.cells #[.int .i64 r.f0, .int .i64 r.f1, .int .i64 r.f2, .int .i64 r.f3, .int .i64 r.f4] 25)) := (Below.refl _ _).alloc (Nat.le_refl _) _
  clear hq
  go_enter Try.func31, Try.ntmps31
  go_wp2
  obtain ⟨w1, hw1⟩ : ∃ w1, w.alloc (.cells #[.int .i64 r.f0, .int .i64 r.f1, .int .i64 r.f2, .int .i64 r.f3, .int .i64 r.f4] 25) = w1 := ⟨_, rfl⟩
  rw [hw1] at y0 HB0 ⊢
  clear hw1
  go_loopw [12, 11] (fun i l wr => ∃ (k : Nat) (m : Int), k ≤ xs.length ∧ i = .int .i64 k ∧ l = .int .i64 m ∧ 0 ≤ m ∧ m ≤ 1000000 * (k : Int) ∧ Hid (m + wageSum r ((xs.drop k).filter (bothP v f t)) = q) ∧ Hid (Blk wr w.heap.size 25 #[.int .i64 r.f0, .int .i64 r.f1, .int .i64 r.f2, .int .i64 r.f3, .int .i64 r.f4]) ∧ Hid (Below w.heap.size w wr)) (fun i _ _ => xs.length - (intOf i).toNat)
  case atStart => exact ⟨0, 0, Nat.zero_le _, rfl, rfl, by omega, by omega, Lib.hid (by simpa using HQ.out), Lib.hid y0, Lib.hid HB0⟩
  case round =>
    obtain ⟨k, m, hk, rfl, rfl, hm0, hm1, HY, X0, hb'⟩ := hrel
    have hb := hb'.out
    have hzz := hb.size
    have hki : (0 : Int) ≤ (k : Int) := by omega
    by_cases hlt : k < xs.length
    · have hR := h.all hb hB
      obtain ⟨b, off, a, rfl, hbB, ok, HX, hc0, hc1, hc2, hc3, hc4⟩ := WorkSheetR_at (F := workSheetF) rfl (fun _ => rfl) (fun _ => rfl) hR hlt
      have HD := Lib.hid (filt_drop (bothP v f t) HX.out)
      have hkl : (k : Int) < (xs.length : Int) := by omega
      have hbz : b < wr.heap.size := by omega
      by_cases h1 : a.f0 = v
      rotate_left
      · have HN := Lib.hid (show m + wageSum r ((xs.drop (k + 1)).filter (bothP v f t)) = q by rw [← HY.out, HD.out, if_neg (show ¬ bothP v f t a = true by simp [bothP, ownP, h1])]; rfl)
        have h1' : (a.f0 == v) = false := by simp [h1]
        clear h1
        go_wp2
        go_roundw
        case rel => exact ⟨k + 1, m, by omega, by go_num, rfl, by omega, by omega, HN, X0, hb'⟩
        case measure => simp [intOf]; omega
      have h1' : (a.f0 == v) = true := by simp [h1]
      have H1 := Lib.hid h1
      clear h1
      by_cases h2 : inB a.f1 f t = true
      rotate_left
      · have h2' := not_false h2
        have HN := Lib.hid (show m + wageSum r ((xs.drop (k + 1)).filter (bothP v f t)) = q by rw [← HY.out, HD.out, if_neg (show ¬ bothP v f t a = true by simp [bothP, dayP, h2'])]; rfl)
        go_wp2_with fail
        refine (l1In_any _ _ _ _).mono ?_
        rintro e w' ⟨rfl, rfl⟩
        rw [h2']
        go_wp2
        go_roundw
        case rel => exact ⟨k + 1, m, by omega, by go_num, rfl, by omega, by omega, HN, X0, hb'⟩
        case measure => simp [intOf]; omega
      have hkn := sheet_knotty (allS_at HS.out HX.out)
      have hbd := wage_bd hr hkn
      obtain ⟨u, hu⟩ : ∃ u, wageI r a = u := ⟨_, rfl⟩
      rw [hu] at hbd
      have HC := Lib.hid (fun w => l14Wage_eq r a u w hr hkn hu)
      have HN := Lib.hid (show (m + u) + wageSum r ((xs.drop (k + 1)).filter (bothP v f t)) = q by
        rw [← HY.out, HD.out, if_pos (show bothP v f t a = true by simp [bothP, ownP, dayP, H1.out, h2]), wageSum_app, ← hu]
        simp only [wageSum]
        omega)
      have gm : IntKind.i64.wrap (m + u) = m + u := IntWalk.i64_in _ (by omega)
      clear hu hkn
      have x0 := X0.out
      go_wp2_with fail
      refine (l1In_any _ _ _ _).mono ?_
      rintro e w' ⟨rfl, rfl⟩
      rw [h2]
      go_wp2
      go_region_held3 (fun w' => w'.cell? ⟨w.heap.size, 0, none⟩ = some (.int .i64 r.f0) ∧ w'.cell? ⟨w.heap.size, 1, none⟩ = some (.int .i64 r.f1) ∧ w'.cell? ⟨w.heap.size, 2, none⟩ = some (.int .i64 r.f2) ∧ w'.cell? ⟨w.heap.size, 3, none⟩ = some (.int .i64 r.f3) ∧ w'.cell? ⟨w.heap.size, 4, none⟩ = some (.int .i64 r.f4) ∧ w'.cell? ⟨b, off + k * 5, none⟩ = some (.int .i64 a.f0) ∧ w'.cell? ⟨b, off + k * 5 + 1, none⟩ = some (.int .i64 a.f1) ∧ w'.cell? ⟨b, off + k * 5 + 2, none⟩ = some (.int .i64 a.f2) ∧ w'.cell? ⟨b, off + k * 5 + 3, none⟩ = some (.int .i64 a.f3) ∧ w'.cell? ⟨b, off + k * 5 + 4, none⟩ = some (.int .i64 a.f4)) (first | exact ⟨x0.cell 0, x0.cell 1, x0.cell 2, x0.cell 3, x0.cell 4, hc0, hc1, hc2, hc3, hc4⟩ | go_keep) (first | (go_at_call 39; (with_reducible refine (HC.out _).mono ?_); rintro e w5 ⟨rfl, hb5⟩; (try replace hb5 := below_drew' hb5); replace x0 := x0.all hb5; replace hb := hb.trans (hb5.mono hb.size); replace hc0 := cells_of hb5 hc0 hbz; replace hc1 := cells_of hb5 hc1 hbz; replace hc2 := cells_of hb5 hc2 hbz; replace hc3 := cells_of hb5 hc3 hbz; replace hc4 := cells_of hb5 hc4 hbz))
      go_wp2
      go_roundw
      case rel => exact ⟨k + 1, m + u, by omega, by go_num, by go_num, by omega, by omega, HN, Lib.hid x0, Lib.hid hb⟩
      case measure => simp [intOf]; omega
    · obtain rfl : k = xs.length := by omega
      have HE := Lib.hid (show m = q by have := HY.out; rw [List.drop_length] at this; simpa [wageSum] using this)
      go_wp2
      go_ret
      exact ⟨ret_int (by rw [HE.out]), hb⟩
set_option maxRecDepth 100000 in
set_option maxHeartbeats 8000000 in
theorem specWagesBetween_any (r : RatesR) (A : Option Addr) (n c B : Nat) (xs : List WorkSheetR) (v f t : Int) (w : World) (h : RdF workSheetF w B A n c xs) (hB : B ≤ w.heap.size) :
    Calls Try.prog 17 #[.agg #[.int .i64 r.f0, .int .i64 r.f1, .int .i64 r.f2, .int .i64 r.f3, .int .i64 r.f4], .slice A n c, .int .i64 v, .int .i64 f, .int .i64 t] w (Out w (.tuple #[.int .i64 (between14 r xs v f t).1, .bool (between14 r xs v f t).2])) := by
  obtain rfl := h.len
  have y0 := Blk.new w #[.int .i64 r.f0, .int .i64 r.f1, .int .i64 r.f2, .int .i64 r.f3, .int .i64 r.f4] 25
  have HB : Below w.heap.size w (w.alloc (.cells #[.int .i64 r.f0, .int .i64 r.f1, .int .i64 r.f2, .int .i64 r.f3, .int .i64 r.f4] 25)) := (Below.refl _ _).alloc (Nat.le_refl _) _
  have hR := h.alloc hB (.cells #[.int .i64 r.f0, .int .i64 r.f1, .int .i64 r.f2, .int .i64 r.f3, .int .i64 r.f4] 25)
  have hBW : B ≤ (w.alloc (.cells #[.int .i64 r.f0, .int .i64 r.f1, .int .i64 r.f2, .int .i64 r.f3, .int .i64 r.f4] 25)).heap.size := by simp; omega
  by_cases hr : ratesB r = true
  rotate_left
  · have hr' := not_false hr
    have H := Lib.hid (between_no (r := r) (xs := xs) (v := v) (f := f) (t := t) (fun hh => hr hh.1))
    rw [H.out]
    go_enter Try.func17, Try.ntmps17
    have e00 := y0.cell 0
    have e01 := y0.cell 1
    have e02 := y0.cell 2
    have e03 := y0.cell 3
    have e04 := y0.cell 4
    go_wp2_with fail
    refine (l14Rates_eq r _ _ hr').mono ?_
    rintro e wa ⟨rfl, hb⟩
    clear e00 e01 e02 e03 e04
    replace y0 := y0.all hb
    replace hR := hR.all hb hBW
    replace hBW := Nat.le_trans hBW hb.size
    replace HB := HB.trans (hb.mono HB.size)
    clear hb
    go_wp2
    go_ret2
    exact ⟨rfl, HB⟩
  by_cases hs : sheetsB xs = true
  rotate_left
  · have hs' := not_false hs
    have H := Lib.hid (between_no (r := r) (xs := xs) (v := v) (f := f) (t := t) (fun hh => hs hh.2.1))
    rw [H.out]
    go_enter Try.func17, Try.ntmps17
    have e00 := y0.cell 0
    have e01 := y0.cell 1
    have e02 := y0.cell 2
    have e03 := y0.cell 3
    have e04 := y0.cell 4
    go_wp2_with fail
    refine (l14Rates_eq r _ _ hr).mono ?_
    rintro e wa ⟨rfl, hb⟩
    clear e00 e01 e02 e03 e04
    replace y0 := y0.all hb
    replace hR := hR.all hb hBW
    replace hBW := Nat.le_trans hBW hb.size
    replace HB := HB.trans (hb.mono HB.size)
    clear hb
    have e00 := y0.cell 0
    have e01 := y0.cell 1
    have e02 := y0.cell 2
    have e03 := y0.cell 3
    have e04 := y0.cell 4
    go_wp2_with fail
    refine (l14Good_eq A _ c B xs _ _ hR hBW hs').mono ?_
    rintro e wb ⟨rfl, hb⟩
    clear e00 e01 e02 e03 e04
    replace y0 := y0.all hb
    replace hR := hR.all hb hBW
    replace hBW := Nat.le_trans hBW hb.size
    replace HB := HB.trans (hb.mono HB.size)
    clear hb
    go_wp2
    go_ret2
    exact ⟨rfl, HB⟩
  by_cases hv : inB v 1 99 = true
  rotate_left
  · have hv' := not_false hv
    have H := Lib.hid (between_no (r := r) (xs := xs) (v := v) (f := f) (t := t) (fun hh => hv hh.2.2.1))
    rw [H.out]
    go_enter Try.func17, Try.ntmps17
    have e00 := y0.cell 0
    have e01 := y0.cell 1
    have e02 := y0.cell 2
    have e03 := y0.cell 3
    have e04 := y0.cell 4
    go_wp2_with fail
    refine (l14Rates_eq r _ _ hr).mono ?_
    rintro e wa ⟨rfl, hb⟩
    clear e00 e01 e02 e03 e04
    replace y0 := y0.all hb
    replace hR := hR.all hb hBW
    replace hBW := Nat.le_trans hBW hb.size
    replace HB := HB.trans (hb.mono HB.size)
    clear hb
    have e00 := y0.cell 0
    have e01 := y0.cell 1
    have e02 := y0.cell 2
    have e03 := y0.cell 3
    have e04 := y0.cell 4
    go_wp2_with fail
    refine (l14Good_eq A _ c B xs _ _ hR hBW hs).mono ?_
    rintro e wb ⟨rfl, hb⟩
    clear e00 e01 e02 e03 e04
    replace y0 := y0.all hb
    replace hR := hR.all hb hBW
    replace hBW := Nat.le_trans hBW hb.size
    replace HB := HB.trans (hb.mono HB.size)
    clear hb
    go_wp2_with fail
    refine (l1In_any v 1 99 _).mono ?_
    rintro e w' ⟨rfl, rfl⟩
    rw [hv']
    go_wp2
    go_ret2
    exact ⟨rfl, HB⟩
  by_cases ht : inB t 0 4000 = true
  rotate_left
  · have ht' := not_false ht
    have H := Lib.hid (between_no (r := r) (xs := xs) (v := v) (f := f) (t := t) (fun hh => ht hh.2.2.2.1))
    rw [H.out]
    go_enter Try.func17, Try.ntmps17
    have e00 := y0.cell 0
    have e01 := y0.cell 1
    have e02 := y0.cell 2
    have e03 := y0.cell 3
    have e04 := y0.cell 4
    go_wp2_with fail
    refine (l14Rates_eq r _ _ hr).mono ?_
    rintro e wa ⟨rfl, hb⟩
    clear e00 e01 e02 e03 e04
    replace y0 := y0.all hb
    replace hR := hR.all hb hBW
    replace hBW := Nat.le_trans hBW hb.size
    replace HB := HB.trans (hb.mono HB.size)
    clear hb
    have e00 := y0.cell 0
    have e01 := y0.cell 1
    have e02 := y0.cell 2
    have e03 := y0.cell 3
    have e04 := y0.cell 4
    go_wp2_with fail
    refine (l14Good_eq A _ c B xs _ _ hR hBW hs).mono ?_
    rintro e wb ⟨rfl, hb⟩
    clear e00 e01 e02 e03 e04
    replace y0 := y0.all hb
    replace hR := hR.all hb hBW
    replace hBW := Nat.le_trans hBW hb.size
    replace HB := HB.trans (hb.mono HB.size)
    clear hb
    go_wp2_with fail
    refine (l1In_any v 1 99 _).mono ?_
    rintro e w' ⟨rfl, rfl⟩
    rw [hv]
    go_wp2_with fail
    refine (l2Day_any t _).mono ?_
    rintro e w' ⟨rfl, rfl⟩
    rw [ht']
    go_wp2
    go_ret2
    exact ⟨rfl, HB⟩
  by_cases hf : inB f 0 t = true
  rotate_left
  · have hf' := not_false hf
    have H := Lib.hid (between_no (r := r) (xs := xs) (v := v) (f := f) (t := t) (fun hh => hf hh.2.2.2.2))
    rw [H.out]
    go_enter Try.func17, Try.ntmps17
    have e00 := y0.cell 0
    have e01 := y0.cell 1
    have e02 := y0.cell 2
    have e03 := y0.cell 3
    have e04 := y0.cell 4
    go_wp2_with fail
    refine (l14Rates_eq r _ _ hr).mono ?_
    rintro e wa ⟨rfl, hb⟩
    clear e00 e01 e02 e03 e04
    replace y0 := y0.all hb
    replace hR := hR.all hb hBW
    replace hBW := Nat.le_trans hBW hb.size
    replace HB := HB.trans (hb.mono HB.size)
    clear hb
    have e00 := y0.cell 0
    have e01 := y0.cell 1
    have e02 := y0.cell 2
    have e03 := y0.cell 3
    have e04 := y0.cell 4
    go_wp2_with fail
    refine (l14Good_eq A _ c B xs _ _ hR hBW hs).mono ?_
    rintro e wb ⟨rfl, hb⟩
    clear e00 e01 e02 e03 e04
    replace y0 := y0.all hb
    replace hR := hR.all hb hBW
    replace hBW := Nat.le_trans hBW hb.size
    replace HB := HB.trans (hb.mono HB.size)
    clear hb
    go_wp2_with fail
    refine (l1In_any v 1 99 _).mono ?_
    rintro e w' ⟨rfl, rfl⟩
    rw [hv]
    go_wp2_with fail
    refine (l2Day_any t _).mono ?_
    rintro e w' ⟨rfl, rfl⟩
    rw [ht]
    go_wp2_with fail
    refine (l1In_any f 0 t _).mono ?_
    rintro e w' ⟨rfl, rfl⟩
    rw [hf']
    go_wp2
    go_ret2
    exact ⟨rfl, HB⟩
  have H := Lib.hid (between_yes (r := r) (xs := xs) (v := v) (f := f) (t := t) ⟨hr, hs, hv, ht, hf⟩)
  rw [H.out]
  have h12 := (sheetsB_of hs).1
  go_enter Try.func17, Try.ntmps17
  have e00 := y0.cell 0
  have e01 := y0.cell 1
  have e02 := y0.cell 2
  have e03 := y0.cell 3
  have e04 := y0.cell 4
  go_wp2_with fail
  refine (l14Rates_eq r _ _ hr).mono ?_
  rintro e wa ⟨rfl, hb⟩
  clear e00 e01 e02 e03 e04
  replace y0 := y0.all hb
  replace hR := hR.all hb hBW
  replace hBW := Nat.le_trans hBW hb.size
  replace HB := HB.trans (hb.mono HB.size)
  clear hb
  have e00 := y0.cell 0
  have e01 := y0.cell 1
  have e02 := y0.cell 2
  have e03 := y0.cell 3
  have e04 := y0.cell 4
  go_wp2_with fail
  refine (l14Good_eq A _ c B xs _ _ hR hBW hs).mono ?_
  rintro e wb ⟨rfl, hb⟩
  clear e00 e01 e02 e03 e04
  replace y0 := y0.all hb
  replace hR := hR.all hb hBW
  replace hBW := Nat.le_trans hBW hb.size
  replace HB := HB.trans (hb.mono HB.size)
  clear hb
  go_wp2_with fail
  refine (l1In_any v 1 99 _).mono ?_
  rintro e w' ⟨rfl, rfl⟩
  rw [hv]
  go_wp2_with fail
  refine (l2Day_any t _).mono ?_
  rintro e w' ⟨rfl, rfl⟩
  rw [ht]
  go_wp2_with fail
  refine (l1In_any f 0 t _).mono ?_
  rintro e w' ⟨rfl, rfl⟩
  rw [hf]
  have e00 := y0.cell 0
  have e01 := y0.cell 1
  have e02 := y0.cell 2
  have e03 := y0.cell 3
  have e04 := y0.cell 4
  go_wp2_with fail
  refine (l14Sum_any A _ c B xs r v f t _ _ hR hBW (by omega) hr (sheets_all hs) rfl).mono ?_
  rintro e wc ⟨rfl, hb⟩
  clear e00 e01 e02 e03 e04
  replace y0 := y0.all hb
  replace hR := hR.all hb hBW
  replace hBW := Nat.le_trans hBW hb.size
  replace HB := HB.trans (hb.mono HB.size)
  clear hb
  go_wp2
  go_ret2
  exact ⟨rfl, HB⟩
end Go.Proofs.Ytihhlldpdfihfaa
