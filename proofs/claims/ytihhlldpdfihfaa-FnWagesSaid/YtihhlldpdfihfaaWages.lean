/- The sheets of a weaver, sums of wages and WagesBetween: the walks of the program. Conditions: as they stand. -/
import Derived.Test.YtihhlldpdfihfaaSheets
import Derived.Test.YtihhlldpdfihfaaRestI
import Derived.Deep.CutRange
namespace Go.Proofs.Ytihhlldpdfihfaa
open Go.RowKit

/-- What a call leaves that answers a slice of its own. -/
def OutL {α : Type} (F : Flat α) (w : World) (ys : List α) (e : Ending) (w' : World) : Prop :=
  ∃ A c, e = .returned (.slice A ys.length c) ∧ OwnF F w' w.heap.size (.slice A ys.length c) ys ∧ Below w.heap.size w w'
set_option maxRecDepth 100000 in
set_option maxHeartbeats 4000000 in
theorem sheetsOf_any (A : Option Addr) (n c B : Nat) (xs : List WorkSheetR) (v : Int) (w : World) (h : RdF workSheetF w B A n c xs) (hB : B ≤ w.heap.size) (hn : n ≤ 1000) :
    Calls Try.prog 27 #[.slice A n c, .int .i64 v] w (OutL workSheetF w (ofW xs v)) := by
  obtain rfl := h.len
  go_enter Try.func27, Try.ntmps27
  go_wp2
  go_loopw [10, 5] (fun i l wr => ∃ (k m : Nat) (ys : List WorkSheetR) (A' : Option Addr) (c' : Nat), k ≤ xs.length ∧ i = .int .i64 k ∧ l = .slice A' m c' ∧ Hid (ys.length = m) ∧ m ≤ k ∧ OwnF workSheetF wr w.heap.size (.slice A' m c') ys ∧ Hid (ys ++ (xs.drop k).filter (ownP v) = ofW xs v) ∧ Below w.heap.size w wr) (fun i _ _ => xs.length - (intOf i).toNat)
  case atStart => exact ⟨0, 0, [], none, 0, Nat.zero_le _, rfl, rfl, Lib.hid rfl, Nat.le_refl _, OwnF.nil _ _ _, Lib.hid (by simp [ofW]), Below.refl _ _⟩
  case round =>
    obtain ⟨k, m, ys, A', c', hk, rfl, rfl, HL, hmk, own, HY, hb⟩ := hrel
    have hzz := hb.size
    by_cases hlt : k < xs.length
    · obtain ⟨b, off, a, rfl, hbB, ok, HX, hc0, hc1, hc2, hc3, hc4⟩ := WorkSheetR_at (F := workSheetF) rfl (fun _ => rfl) (fun _ => rfl) (h.all hb hB) hlt
      have HD := Lib.hid (filt_drop (ownP v) HX.out)
      have x7 := Blk.new wr #[.int .i64 a.f0, .int .i64 a.f1, .int .i64 a.f2, .int .i64 a.f3, .int .i64 a.f4] 36
      have own7 := own.alloc (.cells #[.int .i64 a.f0, .int .i64 a.f1, .int .i64 a.f2, .int .i64 a.f3, .int .i64 a.f4] 36)
      have HB := hb.alloc hzz (.cells #[.int .i64 a.f0, .int .i64 a.f1, .int .i64 a.f2, .int .i64 a.f3, .int .i64 a.f4] 36)
      have hz7 : w.heap.size ≤ (wr.alloc (.cells #[.int .i64 a.f0, .int .i64 a.f1, .int .i64 a.f2, .int .i64 a.f3, .int .i64 a.f4] 36)).heap.size := HB.size
      clear hb own
      by_cases hl : a.f0 = v
      · have HN := Lib.hid (show (ys ++ [a]) ++ (xs.drop (k + 1)).filter (ownP v) = ofW xs v by rw [← HY.out, HD.out, if_pos (show ownP v a = true from decide_eq_true hl), List.append_assoc])
        have HLL := Lib.hid hl
        have hl' : (a.f0 == v) = true := by simp [hl]
        clear hl
        go_upto_region 6 with fail
        clear hc0 hc1 hc2 hc3 hc4
        generalize wr.alloc (.cells #[.int .i64 a.f0, .int .i64 a.f1, .int .i64 a.f2, .int .i64 a.f3, .int .i64 a.f4] 36) = W7 at *
        generalize wr.heap.size = P at *
        have e70 := x7.cell 0
        have e71 := x7.cell 1
        have e72 := x7.cell 2
        have e73 := x7.cell 3
        have e74 := x7.cell 4
        have hzP := x7.lt
        go_wp2_with (at_builtin; refine wpList_pushF workSheetF rfl W7 (.tmp 18) (.tmp 20) 26 (.agg #[.int .i64 0, .int .i64 0, .int .i64 0, .int .i64 0, .int .i64 0]) 40 rfl Try.underlying26 info_WorkSheet rfl (by decide) (by decide) w.heap.size m _ ys a #[.int .i64 a.f0, .int .i64 a.f1, .int .i64 a.f2, .int .i64 a.f3, .int .i64 a.f4] rfl ok HL.out rfl rfl own7 (by omega) hz7 ?_)
        intro A2 c2 w8 own8 hg8
        have HB8 := HB.grown hg8 HB.size (fun j hj => (own7.bd j hj).1)
        clear hg8
        go_wp2
        go_roundw
        case rel => exact ⟨k + 1, m + 1, ys ++ [a], A2, c2, by omega, by go_num, rfl, Lib.hid (by rw [List.length_append, HL.out]; rfl), by omega, own8, HN, HB8⟩
        case measure => simp [intOf]; omega
      · have HN := Lib.hid (show ys ++ (xs.drop (k + 1)).filter (ownP v) = ofW xs v by rw [← HY.out, HD.out, if_neg (show ¬ ownP v a = true from fun hh => hl (of_decide_eq_true hh))]; rfl)
        have hl' : (a.f0 == v) = false := by simp [hl]
        clear hl
        go_wp2
        go_roundw
        case rel => exact ⟨k + 1, m, ys, A', c', by omega, by go_num, rfl, HL, by omega, own7, HN, HB⟩
        case measure => simp [intOf]; omega
    · obtain rfl : k = xs.length := by omega
      have HE := Lib.hid (show ys = ofW xs v by have := HY.out; rwa [List.drop_length, List.filter_nil, List.append_nil] at this)
      go_wp2
      go_ret
      exact ⟨A', c', by rw [← HE.out, HL.out]; rfl, by rw [← HE.out, HL.out]; exact own, hb⟩
set_option maxRecDepth 100000 in
set_option maxHeartbeats 4000000 in
theorem wagesOf_any (A : Option Addr) (n c B : Nat) (xs : List WorkSheetR) (r : RatesR) (w : World) (h : RdF workSheetF w B A n c xs) (hB : B ≤ w.heap.size) (hn : n ≤ 1000) (hr : ratesB r = true) (hs : AllS xs) :
    Calls Try.prog 26 #[.agg #[.int .i64 r.f0, .int .i64 r.f1, .int .i64 r.f2, .int .i64 r.f3, .int .i64 r.f4], .slice A n c] w (Out w (.int .i64 (wageSum r xs))) := by
  obtain rfl := h.len
  have HS := Lib.hid hs
  have y0 := Blk.new w #[.int .i64 r.f0, .int .i64 r.f1, .int .i64 r.f2, .int .i64 r.f3, .int .i64 r.f4] 25
  have HB0 : Below w.heap.size w (w.alloc (.cells #[.int .i64 r.f0, .int .i64 r.f1, .int .i64 r.f2, .int .i64 r.f3, .int .i64 r.f4] 25)) := (Below.refl _ _).alloc (Nat.le_refl _) _
  go_enter Try.func26, Try.ntmps26
  go_wp2
  obtain ⟨w1, hw1⟩ : ∃ w1, w.alloc (.cells #[.int .i64 r.f0, .int .i64 r.f1, .int .i64 r.f2, .int .i64 r.f3, .int .i64 r.f4] 25) = w1 := ⟨_, rfl⟩
  rw [hw1] at y0 HB0 ⊢
  clear hw1
  go_loopw [10, 5] (fun i l wr => ∃ (k : Nat) (m : Int), k ≤ xs.length ∧ i = .int .i64 k ∧ l = .int .i64 m ∧ 0 ≤ m ∧ m ≤ 1000000 * (k : Int) ∧ Hid (m + wageSum r (xs.drop k) = wageSum r xs) ∧ Blk wr w.heap.size 25 #[.int .i64 r.f0, .int .i64 r.f1, .int .i64 r.f2, .int .i64 r.f3, .int .i64 r.f4] ∧ Hid (Below w.heap.size w wr)) (fun i _ _ => xs.length - (intOf i).toNat)
  case atStart => exact ⟨0, 0, Nat.zero_le _, rfl, rfl, by omega, by omega, Lib.hid (by simp), y0, Lib.hid HB0⟩
  case round =>
    obtain ⟨k, m, hk, rfl, rfl, hm0, hm1, HY, x0, hb'⟩ := hrel
    have hb := hb'.out
    have hzz := hb.size
    by_cases hlt : k < xs.length
    · obtain ⟨b, off, a, rfl, hbB, ok, HX, hc0, hc1, hc2, hc3, hc4⟩ := WorkSheetR_at (F := workSheetF) rfl (fun _ => rfl) (fun _ => rfl) (h.all hb hB) hlt
      have HD := Lib.hid (wageSum_drop (r := r) HX.out)
      have hkn := sheet_knotty (allS_at HS.out HX.out)
      have hbd := wage_bd hr hkn
      obtain ⟨v, hv⟩ : ∃ v, wageI r a = v := ⟨_, rfl⟩
      rw [hv] at hbd HD
      have HC := Lib.hid (fun w => wageOf_eq r a v w hr hkn hv)
      have HN := Lib.hid (show (m + v) + wageSum r (xs.drop (k + 1)) = wageSum r xs by rw [← HY.out, HD.out]; omega)
      have hkn2 := Lib.hid hkn
      clear hv hkn
      have x7 := Blk.new wr #[.int .i64 a.f0, .int .i64 a.f1, .int .i64 a.f2, .int .i64 a.f3, .int .i64 a.f4] 36
      have HB := hb.alloc hzz (.cells #[.int .i64 a.f0, .int .i64 a.f1, .int .i64 a.f2, .int .i64 a.f3, .int .i64 a.f4] 36)
      replace x0 := x0.alloc (.cells #[.int .i64 a.f0, .int .i64 a.f1, .int .i64 a.f2, .int .i64 a.f3, .int .i64 a.f4] 36)
      clear hb hb'
      go_upto_region 5 with fail
      clear hc0 hc1 hc2 hc3 hc4
      generalize wr.alloc (.cells #[.int .i64 a.f0, .int .i64 a.f1, .int .i64 a.f2, .int .i64 a.f3, .int .i64 a.f4] 36) = W7 at *
      generalize wr.heap.size = P at *
      have hzP := x7.lt
      have e70 := x7.cell 0
      have e00 := x0.cell 0
      have e71 := x7.cell 1
      have e01 := x0.cell 1
      have e72 := x7.cell 2
      have e02 := x0.cell 2
      have e73 := x7.cell 3
      have e03 := x0.cell 3
      have e74 := x7.cell 4
      have e04 := x0.cell 4
      go_wp2_with fail
      refine (HC.out _).mono ?_
      rintro e w8 ⟨rfl, hb8⟩
      replace x0 := x0.all hb8
      replace HB := HB.trans (hb8.mono HB.size)
      clear hb8
      go_wp2
      go_roundw
      case rel => exact ⟨k + 1, m + v, by omega, by go_num, by go_num, by omega, by omega, HN, x0, Lib.hid HB⟩
      case measure => simp [intOf]; omega
    · obtain rfl : k = xs.length := by omega
      have HE := Lib.hid (show m = wageSum r xs by have := HY.out; rw [List.drop_length] at this; simpa [wageSum] using this)
      go_wp2
      go_ret
      exact ⟨ret_int (by rw [HE.out]), hb⟩
theorem wagesOf_eq (A : Option Addr) (n c B : Nat) (xs : List WorkSheetR) (r : RatesR) (q : Int) (w : World) (h : RdF workSheetF w B A n c xs) (hB : B ≤ w.heap.size) (hn : n ≤ 1000) (hr : ratesB r = true) (hs : AllS xs) (hq : wageSum r xs = q) :
    Calls Try.prog 26 #[.agg #[.int .i64 r.f0, .int .i64 r.f1, .int .i64 r.f2, .int .i64 r.f3, .int .i64 r.f4], .slice A n c] w (Out w (.int .i64 q)) := hq ▸ wagesOf_any A n c B xs r w h hB hn hr hs
noncomputable def between14 (r : RatesR) (xs : List WorkSheetR) (v f t : Int) : Int × Bool :=
  if ratesB r = true ∧ sheetsB xs = true ∧ inB v 1 99 = true ∧ inB t 0 4000 = true ∧ inB f 0 t = true then (paid r xs v f t, true) else (0, false)
theorem between_no {r : RatesR} {xs : List WorkSheetR} {v f t : Int} (h : ¬ (ratesB r = true ∧ sheetsB xs = true ∧ inB v 1 99 = true ∧ inB t 0 4000 = true ∧ inB f 0 t = true)) : between14 r xs v f t = (0, false) := if_neg h
theorem between_yes {r : RatesR} {xs : List WorkSheetR} {v f t : Int} (h : ratesB r = true ∧ sheetsB xs = true ∧ inB v 1 99 = true ∧ inB t 0 4000 = true ∧ inB f 0 t = true) : between14 r xs v f t = (paid r xs v f t, true) := if_pos h
set_option maxRecDepth 100000 in
set_option maxHeartbeats 8000000 in
theorem implWagesBetween_any (r : RatesR) (A : Option Addr) (n c B : Nat) (xs : List WorkSheetR) (v f t : Int) (w : World) (h : RdF workSheetF w B A n c xs) (hB : B ≤ w.heap.size) :
    Calls Try.prog 16 #[.agg #[.int .i64 r.f0, .int .i64 r.f1, .int .i64 r.f2, .int .i64 r.f3, .int .i64 r.f4], .slice A n c, .int .i64 v, .int .i64 f, .int .i64 t] w (Out w (.tuple #[.int .i64 (between14 r xs v f t).1, .bool (between14 r xs v f t).2])) := by
  obtain rfl := h.len
  have y0 := Blk.new w #[.int .i64 r.f0, .int .i64 r.f1, .int .i64 r.f2, .int .i64 r.f3, .int .i64 r.f4] 25
  have HB : Below w.heap.size w (w.alloc (.cells #[.int .i64 r.f0, .int .i64 r.f1, .int .i64 r.f2, .int .i64 r.f3, .int .i64 r.f4] 25)) := (Below.refl _ _).alloc (Nat.le_refl _) _
  have hR := h.alloc hB (.cells #[.int .i64 r.f0, .int .i64 r.f1, .int .i64 r.f2, .int .i64 r.f3, .int .i64 r.f4] 25)
  have hBW : B ≤ (w.alloc (.cells #[.int .i64 r.f0, .int .i64 r.f1, .int .i64 r.f2, .int .i64 r.f3, .int .i64 r.f4] 25)).heap.size := by simp; omega
  by_cases hr : ratesB r = true
  rotate_left
  · have hr' := not_false hr
    have H := Lib.hid (between_no (r := r) (xs := xs) (v := v) (f := f) (t := t) (fun hh => hr hh.1))
    rw [H.out]
    go_enter Try.func16, Try.ntmps16
    have e00 := y0.cell 0
    have e01 := y0.cell 1
    have e02 := y0.cell 2
    have e03 := y0.cell 3
    have e04 := y0.cell 4
    go_wp2_with fail
    refine (implAreRates_eq r _ _ hr').mono ?_
    rintro e wa ⟨rfl, hb⟩
    clear e00 e01 e02 e03 e04
    replace y0 := y0.all hb
    replace hR := hR.all hb hBW
    replace hBW := Nat.le_trans hBW hb.size
    replace HB := HB.trans (hb.mono HB.size)
    clear hb
    go_wp2
    go_ret2
    exact ⟨rfl, HB⟩
  by_cases hs : sheetsB xs = true
  rotate_left
  · have hs' := not_false hs
    have H := Lib.hid (between_no (r := r) (xs := xs) (v := v) (f := f) (t := t) (fun hh => hs hh.2.1))
    rw [H.out]
    go_enter Try.func16, Try.ntmps16
    have e00 := y0.cell 0
    have e01 := y0.cell 1
    have e02 := y0.cell 2
    have e03 := y0.cell 3
    have e04 := y0.cell 4
    go_wp2_with fail
    refine (implAreRates_eq r _ _ hr).mono ?_
    rintro e wa ⟨rfl, hb⟩
    clear e00 e01 e02 e03 e04
    replace y0 := y0.all hb
    replace hR := hR.all hb hBW
    replace hBW := Nat.le_trans hBW hb.size
    replace HB := HB.trans (hb.mono HB.size)
    clear hb
    have e00 := y0.cell 0
    have e01 := y0.cell 1
    have e02 := y0.cell 2
    have e03 := y0.cell 3
    have e04 := y0.cell 4
    go_wp2_with fail
    refine (implAreSheets_eq A _ c B xs _ _ hR hBW hs').mono ?_
    rintro e wb ⟨rfl, hb⟩
    clear e00 e01 e02 e03 e04
    replace y0 := y0.all hb
    replace hR := hR.all hb hBW
    replace hBW := Nat.le_trans hBW hb.size
    replace HB := HB.trans (hb.mono HB.size)
    clear hb
    go_wp2
    go_ret2
    exact ⟨rfl, HB⟩
  by_cases hv : inB v 1 99 = true
  rotate_left
  · have hv' := not_false hv
    have H := Lib.hid (between_no (r := r) (xs := xs) (v := v) (f := f) (t := t) (fun hh => hv hh.2.2.1))
    rw [H.out]
    go_enter Try.func16, Try.ntmps16
    have e00 := y0.cell 0
    have e01 := y0.cell 1
    have e02 := y0.cell 2
    have e03 := y0.cell 3
    have e04 := y0.cell 4
    go_wp2_with fail
    refine (implAreRates_eq r _ _ hr).mono ?_
    rintro e wa ⟨rfl, hb⟩
    clear e00 e01 e02 e03 e04
    replace y0 := y0.all hb
    replace hR := hR.all hb hBW
    replace hBW := Nat.le_trans hBW hb.size
    replace HB := HB.trans (hb.mono HB.size)
    clear hb
    have e00 := y0.cell 0
    have e01 := y0.cell 1
    have e02 := y0.cell 2
    have e03 := y0.cell 3
    have e04 := y0.cell 4
    go_wp2_with fail
    refine (implAreSheets_eq A _ c B xs _ _ hR hBW hs).mono ?_
    rintro e wb ⟨rfl, hb⟩
    clear e00 e01 e02 e03 e04
    replace y0 := y0.all hb
    replace hR := hR.all hb hBW
    replace hBW := Nat.le_trans hBW hb.size
    replace HB := HB.trans (hb.mono HB.size)
    clear hb
    go_wp2_with fail
    refine (isWeaverId_any v _).mono ?_
    rintro e w' ⟨rfl, rfl⟩
    rw [hv']
    go_wp2
    go_ret2
    exact ⟨rfl, HB⟩
  by_cases hf : inB f 0 4000 = true
  rotate_left
  · have hf' := not_false hf
    have H := Lib.hid (between_no (r := r) (xs := xs) (v := v) (f := f) (t := t) (fun hh => hf (decide_eq_true (by have h1 := inB_yes hh.2.2.2.1; have h2 := inB_yes hh.2.2.2.2; omega))))
    rw [H.out]
    go_enter Try.func16, Try.ntmps16
    have e00 := y0.cell 0
    have e01 := y0.cell 1
    have e02 := y0.cell 2
    have e03 := y0.cell 3
    have e04 := y0.cell 4
    go_wp2_with fail
    refine (implAreRates_eq r _ _ hr).mono ?_
    rintro e wa ⟨rfl, hb⟩
    clear e00 e01 e02 e03 e04
    replace y0 := y0.all hb
    replace hR := hR.all hb hBW
    replace hBW := Nat.le_trans hBW hb.size
    replace HB := HB.trans (hb.mono HB.size)
    clear hb
    have e00 := y0.cell 0
    have e01 := y0.cell 1
    have e02 := y0.cell 2
    have e03 := y0.cell 3
    have e04 := y0.cell 4
    go_wp2_with fail
    refine (implAreSheets_eq A _ c B xs _ _ hR hBW hs).mono ?_
    rintro e wb ⟨rfl, hb⟩
    clear e00 e01 e02 e03 e04
    replace y0 := y0.all hb
    replace hR := hR.all hb hBW
    replace hBW := Nat.le_trans hBW hb.size
    replace HB := HB.trans (hb.mono HB.size)
    clear hb
    go_wp2_with fail
    refine (isWeaverId_any v _).mono ?_
    rintro e w' ⟨rfl, rfl⟩
    rw [hv]
    go_wp2_with fail
    refine (isDay_any f _).mono ?_
    rintro e w' ⟨rfl, rfl⟩
    rw [hf']
    go_wp2
    go_ret2
    exact ⟨rfl, HB⟩
  by_cases ht : inB t 0 4000 = true
  rotate_left
  · have ht' := not_false ht
    have H := Lib.hid (between_no (r := r) (xs := xs) (v := v) (f := f) (t := t) (fun hh => ht hh.2.2.2.1))
    rw [H.out]
    go_enter Try.func16, Try.ntmps16
    have e00 := y0.cell 0
    have e01 := y0.cell 1
    have e02 := y0.cell 2
    have e03 := y0.cell 3
    have e04 := y0.cell 4
    go_wp2_with fail
    refine (implAreRates_eq r _ _ hr).mono ?_
    rintro e wa ⟨rfl, hb⟩
    clear e00 e01 e02 e03 e04
    replace y0 := y0.all hb
    replace hR := hR.all hb hBW
    replace hBW := Nat.le_trans hBW hb.size
    replace HB := HB.trans (hb.mono HB.size)
    clear hb
    have e00 := y0.cell 0
    have e01 := y0.cell 1
    have e02 := y0.cell 2
    have e03 := y0.cell 3
    have e04 := y0.cell 4
    go_wp2_with fail
    refine (implAreSheets_eq A _ c B xs _ _ hR hBW hs).mono ?_
    rintro e wb ⟨rfl, hb⟩
    clear e00 e01 e02 e03 e04
    replace y0 := y0.all hb
    replace hR := hR.all hb hBW
    replace hBW := Nat.le_trans hBW hb.size
    replace HB := HB.trans (hb.mono HB.size)
    clear hb
    go_wp2_with fail
    refine (isWeaverId_any v _).mono ?_
    rintro e w' ⟨rfl, rfl⟩
    rw [hv]
    go_wp2_with fail
    refine (isDay_any f _).mono ?_
    rintro e w' ⟨rfl, rfl⟩
    rw [hf]
    go_wp2_with fail
    refine (isDay_any t _).mono ?_
    rintro e w' ⟨rfl, rfl⟩
    rw [ht']
    go_wp2
    go_ret2
    exact ⟨rfl, HB⟩
  by_cases hft : f ≤ t
  rotate_left
  · have H := Lib.hid (between_no (r := r) (xs := xs) (v := v) (f := f) (t := t) (fun hh => hft (inB_yes hh.2.2.2.2).2))
    rw [H.out]
    have hd : decide (t < f) = true := by rw [decide_eq_true_iff]; omega
    go_enter Try.func16, Try.ntmps16
    have e00 := y0.cell 0
    have e01 := y0.cell 1
    have e02 := y0.cell 2
    have e03 := y0.cell 3
    have e04 := y0.cell 4
    go_wp2_with fail
    refine (implAreRates_eq r _ _ hr).mono ?_
    rintro e wa ⟨rfl, hb⟩
    clear e00 e01 e02 e03 e04
    replace y0 := y0.all hb
    replace hR := hR.all hb hBW
    replace hBW := Nat.le_trans hBW hb.size
    replace HB := HB.trans (hb.mono HB.size)
    clear hb
    have e00 := y0.cell 0
    have e01 := y0.cell 1
    have e02 := y0.cell 2
    have e03 := y0.cell 3
    have e04 := y0.cell 4
    go_wp2_with fail
    refine (implAreSheets_eq A _ c B xs _ _ hR hBW hs).mono ?_
    rintro e wb ⟨rfl, hb⟩
    clear e00 e01 e02 e03 e04
    replace y0 := y0.all hb
    replace hR := hR.all hb hBW
    replace hBW := Nat.le_trans hBW hb.size
    replace HB := HB.trans (hb.mono HB.size)
    clear hb
    go_wp2_with fail
    refine (isWeaverId_any v _).mono ?_
    rintro e w' ⟨rfl, rfl⟩
    rw [hv]
    go_wp2_with fail
    refine (isDay_any f _).mono ?_
    rintro e w' ⟨rfl, rfl⟩
    rw [hf]
    go_wp2_with fail
    refine (isDay_any t _).mono ?_
    rintro e w' ⟨rfl, rfl⟩
    rw [ht]
    go_wp2
    go_ret2
    exact ⟨rfl, HB⟩
  have H := Lib.hid (between_yes (r := r) (xs := xs) (v := v) (f := f) (t := t) ⟨hr, hs, hv, ht, decide_eq_true (by have h1 := inB_yes hf; omega)⟩)
  rw [H.out]
  have hd : decide (t < f) = false := by rw [decide_eq_false_iff_not]; omega
  have hd2 : ¬ t < f := by omega
  have h12 := (sheetsB_of hs).1
  have HA := Lib.hid (sheets_all hs)
  go_enter Try.func16, Try.ntmps16
  have e00 := y0.cell 0
  have e01 := y0.cell 1
  have e02 := y0.cell 2
  have e03 := y0.cell 3
  have e04 := y0.cell 4
  go_wp2_with fail
  refine (implAreRates_eq r _ _ hr).mono ?_
  rintro e wa ⟨rfl, hb⟩
  clear e00 e01 e02 e03 e04
  replace y0 := y0.all hb
  replace hR := hR.all hb hBW
  replace hBW := Nat.le_trans hBW hb.size
  replace HB := HB.trans (hb.mono HB.size)
  clear hb
  have e00 := y0.cell 0
  have e01 := y0.cell 1
  have e02 := y0.cell 2
  have e03 := y0.cell 3
  have e04 := y0.cell 4
  go_wp2_with fail
  refine (implAreSheets_eq A _ c B xs _ _ hR hBW hs).mono ?_
  rintro e wb ⟨rfl, hb⟩
  clear e00 e01 e02 e03 e04
  replace y0 := y0.all hb
  replace hR := hR.all hb hBW
  replace hBW := Nat.le_trans hBW hb.size
  replace HB := HB.trans (hb.mono HB.size)
  clear hb
  go_wp2_with fail
  refine (isWeaverId_any v _).mono ?_
  rintro e w' ⟨rfl, rfl⟩
  rw [hv]
  go_wp2_with fail
  refine (isDay_any f _).mono ?_
  rintro e w' ⟨rfl, rfl⟩
  rw [hf]
  go_wp2_with fail
  refine (isDay_any t _).mono ?_
  rintro e w' ⟨rfl, rfl⟩
  rw [ht]
  go_wp2_with fail
  refine (sheetsOf_any A _ c B xs v _ hR hBW (by omega)).mono ?_
  rintro e w2 ⟨A2, c2, rfl, own2, hb2⟩
  have hz2 := hb2.size
  replace y0 := y0.all hb2
  replace HB := HB.trans (hb2.mono HB.size)
  have hzw := HB.size
  have hzy := y0.lt
  have hO := own2.rd
  have hlen := ofW_len xs v
  have HW := Lib.hid (show onDays (ofW xs v) f t = (ofW xs v).filter (dayP f t) from rfl)
  have HA2 := Lib.hid (allS_filter (allS_filter HA.out (ownP v)) (dayP f t))
  have HP := Lib.hid (show paid r xs v f t = wageSum r ((ofW xs v).filter (dayP f t)) from rfl)
  rw [show xs.filter (ownP v) = ofW xs v from rfl] at HA2
  clear own2 hb2 hR HW
  generalize ofW xs v = ys at *
  obtain ⟨zs, hzs⟩ : ∃ zs, ys.filter (dayP f t) = zs := ⟨_, rfl⟩
  have hzl : zs.length ≤ ys.length := hzs ▸ List.length_filter_le _ _
  have HZ := Lib.hid hzs
  rw [hzs] at HA2 HP
  clear hzs
  go_wp2
  go_loopw [45, 12] (fun i l wr => ∃ (k m : Nat) (us : List WorkSheetR) (A' : Option Addr) (c' : Nat), k ≤ ys.length ∧ i = .int .i64 k ∧ l = .slice A' m c' ∧ Hid (us.length = m) ∧ m ≤ k ∧ OwnF workSheetF wr w2.heap.size (.slice A' m c') us ∧ Hid (us ++ (ys.drop k).filter (dayP f t) = zs) ∧ RdF workSheetF wr w2.heap.size A2 ys.length c2 ys ∧ Hid (Blk wr w.heap.size 25 #[.int .i64 r.f0, .int .i64 r.f1, .int .i64 r.f2, .int .i64 r.f3, .int .i64 r.f4]) ∧ Below w.heap.size w wr ∧ w2.heap.size ≤ wr.heap.size) (fun i _ _ => ys.length - (intOf i).toNat)
  case atStart => exact ⟨0, 0, [], none, 0, Nat.zero_le _, rfl, rfl, Lib.hid rfl, Nat.le_refl _, OwnF.nil _ _ _, Lib.hid (by simpa using HZ.out), hO, Lib.hid y0, HB, Nat.le_refl _⟩
  case round =>
    obtain ⟨k, m, us, A', c', hk, rfl, rfl, HL, hmk, own, HY, hO, X0, hb, hz⟩ := hrel
    have hzz := hb.size
    by_cases hlt : k < ys.length
    · obtain ⟨b, off, a, rfl, hbB, ok, HX, hc0, hc1, hc2, hc3, hc4⟩ := WorkSheetR_at (F := workSheetF) rfl (fun _ => rfl) (fun _ => rfl) hO hlt
      have HD := Lib.hid (filt_drop (dayP f t) HX.out)
      have x7 := Blk.new wr #[.int .i64 a.f0, .int .i64 a.f1, .int .i64 a.f2, .int .i64 a.f3, .int .i64 a.f4] 36
      have own7 := own.alloc (.cells #[.int .i64 a.f0, .int .i64 a.f1, .int .i64 a.f2, .int .i64 a.f3, .int .i64 a.f4] 36)
      have hO7 := hO.alloc hz (.cells #[.int .i64 a.f0, .int .i64 a.f1, .int .i64 a.f2, .int .i64 a.f3, .int .i64 a.f4] 36)
      have HB := hb.alloc hzz (.cells #[.int .i64 a.f0, .int .i64 a.f1, .int .i64 a.f2, .int .i64 a.f3, .int .i64 a.f4] 36)
      have hz7 : w2.heap.size ≤ (wr.alloc (.cells #[.int .i64 a.f0, .int .i64 a.f1, .int .i64 a.f2, .int .i64 a.f3, .int .i64 a.f4] 36)).heap.size := by simp; omega
      replace X0 := Lib.hid (X0.out.alloc (.cells #[.int .i64 a.f0, .int .i64 a.f1, .int .i64 a.f2, .int .i64 a.f3, .int .i64 a.f4] 36))
      clear hb own hO
      by_cases hl : inB a.f1 f t = true
      · have HN := Lib.hid (show (us ++ [a]) ++ (ys.drop (k + 1)).filter (dayP f t) = zs by rw [← HY.out, HD.out, if_pos (show dayP f t a = true from hl), List.append_assoc])
        go_upto_region 9 with fail
        clear hc0 hc1 hc2 hc3 hc4
        generalize wr.alloc (.cells #[.int .i64 a.f0, .int .i64 a.f1, .int .i64 a.f2, .int .i64 a.f3, .int .i64 a.f4] 36) = W7 at *
        generalize wr.heap.size = P at *
        have e70 := x7.cell 0
        have e71 := x7.cell 1
        have e72 := x7.cell 2
        have e73 := x7.cell 3
        have e74 := x7.cell 4
        have hzP := x7.lt
        go_wp2_with fail
        refine (isBetween_any _ _ _ _).mono ?_
        rintro e w' ⟨rfl, rfl⟩
        rw [hl]
        go_wp2_with (at_builtin; refine wpList_pushF workSheetF rfl W7 (.tmp 54) (.tmp 56) 26 (.agg #[.int .i64 0, .int .i64 0, .int .i64 0, .int .i64 0, .int .i64 0]) 40 rfl Try.underlying26 info_WorkSheet rfl (by decide) (by decide) w2.heap.size m _ us a #[.int .i64 a.f0, .int .i64 a.f1, .int .i64 a.f2, .int .i64 a.f3, .int .i64 a.f4] rfl ok HL.out rfl rfl own7 (by omega) hz7 ?_)
        intro A3 c3 w8 own8 hg8
        have hlo : ∀ j, (Value.slice A' m c').ownBlock = some j → w2.heap.size ≤ j := fun j hj => (own7.bd j hj).1
        have HB8 := HB.grown hg8 HB.size (fun j hj => Nat.le_trans hzw (hlo j hj))
        have hO8 := hO7.mark hg8 hlo hz7
        have X8 := Lib.hid (X0.out.mark hg8 (fun j hj e => by have := hlo j hj; omega))
        have hz8 : w2.heap.size ≤ w8.heap.size := Nat.le_trans hz7 hg8.size
        clear hg8 hlo
        go_wp2
        go_roundw
        case rel => exact ⟨k + 1, m + 1, us ++ [a], A3, c3, by omega, by go_num, rfl, Lib.hid (by rw [List.length_append, HL.out]; rfl), by omega, own8, HN, hO8, X8, HB8, hz8⟩
        case measure => simp [intOf]; omega
      · have HN := Lib.hid (show us ++ (ys.drop (k + 1)).filter (dayP f t) = zs by rw [← HY.out, HD.out, if_neg (show ¬ dayP f t a = true from hl)]; rfl)
        have hl' := not_false hl
        go_wp2_with fail
        refine (isBetween_any _ _ _ _).mono ?_
        rintro e w' ⟨rfl, rfl⟩
        rw [hl']
        go_wp2
        go_roundw
        case rel => exact ⟨k + 1, m, us, A', c', by omega, by go_num, rfl, HL, by omega, own7, HN, hO7, X0, HB, hz7⟩
        case measure => simp [intOf]; omega
    · obtain rfl : k = ys.length := by omega
      have HE := Lib.hid (show us = zs by have := HY.out; rwa [List.drop_length, List.filter_nil, List.append_nil] at this)
      have x0 := X0.out
      have e00 := x0.cell 0
      have e01 := x0.cell 1
      have e02 := x0.cell 2
      have e03 := x0.cell 3
      have e04 := x0.cell 4
      go_wp2_with fail
      refine (wagesOf_eq A' m c' _ us r (paid r xs v f t) _ own.rd (Nat.le_refl _) (by omega) hr (by rw [HE.out]; exact HA2.out) (by rw [HE.out, HP.out])).mono ?_
      rintro e w9 ⟨rfl, hb9⟩
      go_wp2
      go_ret2
      exact ⟨rfl, hb.trans (hb9.mono hzz)⟩
end Go.Proofs.Ytihhlldpdfihfaa
