/- The walks over one sheet and over rates: valid or not, right knots, the order of two, a wage; both texts. No condition but as they stand. -/
import Derived.Test.YtihhlldpdfihfaaSheetMath
import Derived.Test.YtihhlldpdfihfaaShelf
import Derived.IntWalk
import Derived.BigQuiet
import Derived.Deep.RegionHeld3
namespace Go.Proofs.Ytihhlldpdfihfaa
open Go.RowKit

set_option maxRecDepth 100000 in
set_option maxHeartbeats 400000 in
theorem isWeaverId_any (x : Int) (w : World) : Calls Try.prog 40 #[.int .i64 x] w fun e w' => e = .returned (.bool (inB x 1 99)) ∧ w = w' := by
  go_enter Try.func40, Try.ntmps40
  go_wp2_with (go_at_call 35; (with_reducible refine (isBetween_any _ _ _ _).mono ?_); rintro e w' ⟨rfl, rfl⟩)
  go_ret
  exact ⟨rfl, rfl⟩
set_option maxRecDepth 100000 in
set_option maxHeartbeats 400000 in
theorem l14Cents_any (x : Int) (w : World) : Calls Try.prog 49 #[.int .i64 x] w fun e w' => e = .returned (.bool (inB x 0 10000)) ∧ w = w' := by
  go_enter Try.func49, Try.ntmps49
  go_wp2_with (go_at_call 38; (with_reducible refine (l1In_any _ _ _ _).mono ?_); rintro e w' ⟨rfl, rfl⟩)
  go_ret
  exact ⟨rfl, rfl⟩
set_option maxRecDepth 100000 in
set_option maxHeartbeats 400000 in
theorem isDay_any (x : Int) (w : World) : Calls Try.prog 41 #[.int .i64 x] w fun e w' => e = .returned (.bool (inB x 0 4000)) ∧ w = w' := by
  go_enter Try.func41, Try.ntmps41
  go_wp2_with (first | fail | (go_at_call 38; (with_reducible refine (l1In_any _ _ _ _).mono ?_); rintro e w' ⟨rfl, rfl⟩))
  all_goals
    go_ret
    exact ⟨ret_bool (by simp [inB, *] <;> omega), rfl⟩
set_option maxRecDepth 100000 in
set_option maxHeartbeats 400000 in
theorem l2Day_any (x : Int) (w : World) : Calls Try.prog 42 #[.int .i64 x] w fun e w' => e = .returned (.bool (inB x 0 4000)) ∧ w = w' := by
  go_enter Try.func42, Try.ntmps42
  go_wp2_with (first | fail | (go_at_call 38; (with_reducible refine (l1In_any _ _ _ _).mono ?_); rintro e w' ⟨rfl, rfl⟩))
  all_goals
    go_ret
    exact ⟨ret_bool (by simp [inB, *] <;> omega), rfl⟩
set_option maxRecDepth 100000 in
set_option maxHeartbeats 1000000 in
theorem implIsWorkSheet_any (s : WorkSheetR) (w : World) : Calls Try.prog 21 #[.agg #[.int .i64 s.f0, .int .i64 s.f1, .int .i64 s.f2, .int .i64 s.f3, .int .i64 s.f4]] w (Tells w (sheetB s)) := by
  have hb0 := Lib.hid (show Below w.heap.size w (w.alloc (.cells #[.int .i64 s.f0, .int .i64 s.f1, .int .i64 s.f2, .int .i64 s.f3, .int .i64 s.f4] 36)) from (Below.refl _ _).alloc (Nat.le_refl _) _)
  go_enter Try.func21, Try.ntmps21
  go_wp2_with (first | (go_at_call 40; (with_reducible refine (isWeaverId_any _ _).mono ?_); rintro e w' ⟨rfl, rfl⟩) | (go_at_call 41; (with_reducible refine (isDay_any _ _).mono ?_); rintro e w' ⟨rfl, rfl⟩) | (go_at_call 35; (with_reducible refine (isBetween_any _ _ _ _).mono ?_); rintro e w' ⟨rfl, rfl⟩))
  all_goals
    go_ret
    exact ⟨ret_bool (by simp [sheetB, *]), hb0.out⟩
theorem implIsWorkSheet_eq (s : WorkSheetR) (w : World) (b : Bool) (h : sheetB s = b) : Calls Try.prog 21 #[.agg #[.int .i64 s.f0, .int .i64 s.f1, .int .i64 s.f2, .int .i64 s.f3, .int .i64 s.f4]] w (Tells w b) := h ▸ implIsWorkSheet_any s w
set_option maxRecDepth 100000 in
set_option maxHeartbeats 1000000 in
theorem l14One_any (s : WorkSheetR) (w : World) : Calls Try.prog 44 #[.agg #[.int .i64 s.f0, .int .i64 s.f1, .int .i64 s.f2, .int .i64 s.f3, .int .i64 s.f4]] w (Tells w (sheetB s)) := by
  have hb0 := Lib.hid (show Below w.heap.size w (w.alloc (.cells #[.int .i64 s.f0, .int .i64 s.f1, .int .i64 s.f2, .int .i64 s.f3, .int .i64 s.f4] 36)) from (Below.refl _ _).alloc (Nat.le_refl _) _)
  go_enter Try.func44, Try.ntmps44
  go_wp2_with (first | (go_at_call 38; (with_reducible refine (l1In_any _ _ _ _).mono ?_); rintro e w' ⟨rfl, rfl⟩) | (go_at_call 42; (with_reducible refine (l2Day_any _ _).mono ?_); rintro e w' ⟨rfl, rfl⟩))
  all_goals
    go_ret
    exact ⟨ret_bool (by simp [sheetB, *]), hb0.out⟩
theorem l14One_eq (s : WorkSheetR) (w : World) (b : Bool) (h : sheetB s = b) : Calls Try.prog 44 #[.agg #[.int .i64 s.f0, .int .i64 s.f1, .int .i64 s.f2, .int .i64 s.f3, .int .i64 s.f4]] w (Tells w b) := h ▸ l14One_any s w
set_option maxRecDepth 100000 in
set_option maxHeartbeats 1000000 in
theorem l14Rates_any (r : RatesR) (w : World) : Calls Try.prog 28 #[.agg #[.int .i64 r.f0, .int .i64 r.f1, .int .i64 r.f2, .int .i64 r.f3, .int .i64 r.f4]] w (Tells w (ratesB r)) := by
  have hb0 := Lib.hid (show Below w.heap.size w (w.alloc (.cells #[.int .i64 r.f0, .int .i64 r.f1, .int .i64 r.f2, .int .i64 r.f3, .int .i64 r.f4] 25)) from (Below.refl _ _).alloc (Nat.le_refl _) _)
  go_enter Try.func28, Try.ntmps28
  go_wp2_with (first | (go_at_call 49; (with_reducible refine (l14Cents_any _ _).mono ?_); rintro e w' ⟨rfl, rfl⟩))
  all_goals
    go_ret
    exact ⟨ret_bool (by simp [ratesB, *]), hb0.out⟩
theorem l14Rates_eq (r : RatesR) (w : World) (b : Bool) (h : ratesB r = b) : Calls Try.prog 28 #[.agg #[.int .i64 r.f0, .int .i64 r.f1, .int .i64 r.f2, .int .i64 r.f3, .int .i64 r.f4]] w (Tells w b) := h ▸ l14Rates_any r w
/-- Up to a place all are rates. -/
def ratesN (r : RatesR) : List Int := [r.f0, r.f1, r.f2, r.f3, r.f4]
theorem ratesB_all (r : RatesR) : ratesB r = (ratesN r).all fun x => inB x 0 10000 := by simp [ratesB, ratesN, Bool.and_assoc]
theorem all_bad {xs : List Int} {k : Nat} {x : Int} (hx : xs[k]? = some x) (h : inB x 0 10000 = false) : (xs.all fun x => inB x 0 10000) = false := by
  rw [List.all_eq_false]
  exact ⟨x, List.mem_of_getElem? hx, by rw [h]; decide⟩
set_option maxRecDepth 100000 in
set_option maxHeartbeats 2000000 in
theorem implAreRates_any (r : RatesR) (w : World) : Calls Try.prog 20 #[.agg #[.int .i64 r.f0, .int .i64 r.f1, .int .i64 r.f2, .int .i64 r.f3, .int .i64 r.f4]] w (Tells w (ratesB r)) := by
  have HB := Lib.hid (show Below w.heap.size w ((w.alloc (.cells #[.int .i64 r.f0, .int .i64 r.f1, .int .i64 r.f2, .int .i64 r.f3, .int .i64 r.f4] 25)).alloc (.cells #[.int .i64 r.f0, .int .i64 r.f1, .int .i64 r.f2, .int .i64 r.f3, .int .i64 r.f4] 3)) by repeat (first | assumption | exact Below.refl _ _ | refine belowN ?_ _ | refine belowD ?_ | (refine Below.setCell ?_ (by first | (simp; done) | (simp; omega) | omega) _) | (refine Below.alloc ?_ (by first | (simp; done) | (simp; omega) | omega) _)))
  have x1 := Blk.new (w.alloc (.cells #[.int .i64 r.f0, .int .i64 r.f1, .int .i64 r.f2, .int .i64 r.f3, .int .i64 r.f4] 25)) #[.int .i64 r.f0, .int .i64 r.f1, .int .i64 r.f2, .int .i64 r.f3, .int .i64 r.f4] 3
  rw [show (w.alloc (.cells #[.int .i64 r.f0, .int .i64 r.f1, .int .i64 r.f2, .int .i64 r.f3, .int .i64 r.f4] 25)).heap.size = w.heap.size + 1 by simp] at x1
  have HR := Lib.hid (ratesB_all r)
  have H0 := Lib.hid (fun (x : Int) (k : Nat) (hx : (ratesN r)[k]? = some x) (h : inB x 0 10000 = false) => all_bad hx h)
  go_enter Try.func20, Try.ntmps20
  go_wp2
  obtain ⟨w1, hw1⟩ : ∃ w1, (w.alloc (.cells #[.int .i64 r.f0, .int .i64 r.f1, .int .i64 r.f2, .int .i64 r.f3, .int .i64 r.f4] 25)).alloc (.cells #[.int .i64 r.f0, .int .i64 r.f1, .int .i64 r.f2, .int .i64 r.f3, .int .i64 r.f4] 3) = w1 := ⟨_, rfl⟩
  rw [hw1] at HB x1 ⊢
  clear hw1
  obtain ⟨Q, hQ⟩ : ∃ Q, w.heap.size + 1 = Q := ⟨_, rfl⟩
  rw [hQ] at x1 ⊢
  clear hQ
  have e0 := x1.cell 0
  have e1 := x1.cell 1
  have e2 := x1.cell 2
  have e3 := x1.cell 3
  have e4 := x1.cell 4
  go_loopw [17, 2] (fun i v wr => ∃ k : Nat, k ≤ 5 ∧ i = .int .i64 k ∧ v = .bool false ∧ Hid (∀ j x, j < k → (ratesN r)[j]? = some x → inB x 0 10000 = true) ∧ wr = w1) (fun i _ _ => 5 - (intOf i).toNat)
  case atStart => exact ⟨0, by omega, rfl, rfl, Lib.hid (fun j x h => by omega), rfl⟩
  case round =>
    obtain ⟨k, hk, rfl, rfl, HK, hw⟩ := hrel
    subst hw
    have step : ∀ (x : Int), (ratesN r)[k]? = some x → inB x 0 10000 = true → Hid (∀ j y, j < k + 1 → (ratesN r)[j]? = some y → inB y 0 10000 = true) := fun x hx h => Lib.hid fun j y hj hy => by
      rcases Nat.lt_or_ge j k with hlt | hge
      · exact HK.out j y hlt hy
      · obtain rfl : j = k := by omega
        rw [hx] at hy; cases hy; exact h
    match k, hk with
    | 0, _ =>
      have HS := step r.f0 rfl
      clear step
      by_cases hin : inB r.f0 0 10000 = true
      · have HS2 := HS hin
        clear HS
        go_wp2_with (go_at_call 35; (with_reducible refine (isBetween_any _ _ _ _).mono ?_); rintro e w' ⟨rfl, rfl⟩)
        go_roundw
        case rel => exact ⟨1, by omega, rfl, rfl, HS2, by first | rfl | trivial⟩
        case measure => simp [intOf]
      · have hin' := not_false hin
        have H := Lib.hid (show ratesB r = false by rw [HR.out]; exact H0.out r.f0 0 rfl hin')
        clear HS hin
        go_wp2_with (go_at_call 35; (with_reducible refine (isBetween_any _ _ _ _).mono ?_); rintro e w' ⟨rfl, rfl⟩)
        go_ret
        exact ⟨ret_bool H.out.symm, HB.out⟩
    | 1, _ =>
      have HS := step r.f1 rfl
      clear step
      by_cases hin : inB r.f1 0 10000 = true
      · have HS2 := HS hin
        clear HS
        go_wp2_with (go_at_call 35; (with_reducible refine (isBetween_any _ _ _ _).mono ?_); rintro e w' ⟨rfl, rfl⟩)
        go_roundw
        case rel => exact ⟨2, by omega, rfl, rfl, HS2, by first | rfl | trivial⟩
        case measure => simp [intOf]
      · have hin' := not_false hin
        have H := Lib.hid (show ratesB r = false by rw [HR.out]; exact H0.out r.f1 1 rfl hin')
        clear HS hin
        go_wp2_with (go_at_call 35; (with_reducible refine (isBetween_any _ _ _ _).mono ?_); rintro e w' ⟨rfl, rfl⟩)
        go_ret
        exact ⟨ret_bool H.out.symm, HB.out⟩
    | 2, _ =>
      have HS := step r.f2 rfl
      clear step
      by_cases hin : inB r.f2 0 10000 = true
      · have HS2 := HS hin
        clear HS
        go_wp2_with (go_at_call 35; (with_reducible refine (isBetween_any _ _ _ _).mono ?_); rintro e w' ⟨rfl, rfl⟩)
        go_roundw
        case rel => exact ⟨3, by omega, rfl, rfl, HS2, by first | rfl | trivial⟩
        case measure => simp [intOf]
      · have hin' := not_false hin
        have H := Lib.hid (show ratesB r = false by rw [HR.out]; exact H0.out r.f2 2 rfl hin')
        clear HS hin
        go_wp2_with (go_at_call 35; (with_reducible refine (isBetween_any _ _ _ _).mono ?_); rintro e w' ⟨rfl, rfl⟩)
        go_ret
        exact ⟨ret_bool H.out.symm, HB.out⟩
    | 3, _ =>
      have HS := step r.f3 rfl
      clear step
      by_cases hin : inB r.f3 0 10000 = true
      · have HS2 := HS hin
        clear HS
        go_wp2_with (go_at_call 35; (with_reducible refine (isBetween_any _ _ _ _).mono ?_); rintro e w' ⟨rfl, rfl⟩)
        go_roundw
        case rel => exact ⟨4, by omega, rfl, rfl, HS2, by first | rfl | trivial⟩
        case measure => simp [intOf]
      · have hin' := not_false hin
        have H := Lib.hid (show ratesB r = false by rw [HR.out]; exact H0.out r.f3 3 rfl hin')
        clear HS hin
        go_wp2_with (go_at_call 35; (with_reducible refine (isBetween_any _ _ _ _).mono ?_); rintro e w' ⟨rfl, rfl⟩)
        go_ret
        exact ⟨ret_bool H.out.symm, HB.out⟩
    | 4, _ =>
      have HS := step r.f4 rfl
      clear step
      by_cases hin : inB r.f4 0 10000 = true
      · have HS2 := HS hin
        clear HS
        go_wp2_with (go_at_call 35; (with_reducible refine (isBetween_any _ _ _ _).mono ?_); rintro e w' ⟨rfl, rfl⟩)
        go_roundw
        case rel => exact ⟨5, by omega, rfl, rfl, HS2, by first | rfl | trivial⟩
        case measure => simp [intOf]
      · have hin' := not_false hin
        have H := Lib.hid (show ratesB r = false by rw [HR.out]; exact H0.out r.f4 4 rfl hin')
        clear HS hin
        go_wp2_with (go_at_call 35; (with_reducible refine (isBetween_any _ _ _ _).mono ?_); rintro e w' ⟨rfl, rfl⟩)
        go_ret
        exact ⟨ret_bool H.out.symm, HB.out⟩
    | 5, _ =>
      have H := Lib.hid (show ratesB r = true by
        rw [HR.out, List.all_eq_true]
        intro x hx
        obtain ⟨j, hj, e⟩ := List.mem_iff_getElem.1 hx
        exact HK.out j x (by simpa [ratesN] using hj) (by rw [List.getElem?_eq_getElem hj, e]))
      go_wp2
      go_ret
      exact ⟨ret_bool H.out.symm, HB.out⟩
theorem implAreRates_eq (r : RatesR) (w : World) (b : Bool) (h : ratesB r = b) : Calls Try.prog 20 #[.agg #[.int .i64 r.f0, .int .i64 r.f1, .int .i64 r.f2, .int .i64 r.f3, .int .i64 r.f4]] w (Tells w b) := h ▸ implAreRates_any r w
set_option maxRecDepth 100000 in
set_option maxHeartbeats 400000 in
theorem right_any (s : WorkSheetR) (w : World) (h : Knotty s) : Calls Try.prog 52 #[.agg #[.int .i64 s.f0, .int .i64 s.f1, .int .i64 s.f2, .int .i64 s.f3, .int .i64 s.f4]] w (Out w (.int .i64 (s.f2 - s.f3))) := by
  have hb0 := Lib.hid (show Below w.heap.size w (w.alloc (.cells #[.int .i64 s.f0, .int .i64 s.f1, .int .i64 s.f2, .int .i64 s.f3, .int .i64 s.f4] 36)) from (Below.refl _ _).alloc (Nat.le_refl _) _)
  obtain ⟨⟨k0, k1⟩, ⟨w0, w1⟩, _⟩ := h
  have e0 : IntKind.i64.wrap (s.f2 - s.f3) = s.f2 - s.f3 := IntWalk.i64_in _ (by omega)
  go_enter Try.func52, Try.ntmps52
  go_wp2
  go_ret
  exact ⟨rfl, hb0.out⟩
theorem right_eq (s : WorkSheetR) (q : Int) (w : World) (h : Knotty s) (hq : s.f2 - s.f3 = q) : Calls Try.prog 52 #[.agg #[.int .i64 s.f0, .int .i64 s.f1, .int .i64 s.f2, .int .i64 s.f3, .int .i64 s.f4]] w (Out w (.int .i64 q)) := hq ▸ right_any s w h
theorem compareInt_lt {a b : Int} (h : a < b) : Lib.compareInt a b = -1 := by unfold Lib.compareInt; rw [if_pos h]
theorem compareInt_gt {a b : Int} (h : b < a) : Lib.compareInt a b = 1 := by unfold Lib.compareInt; rw [if_neg (by omega), if_pos h]
theorem compareInt_eq {a b : Int} (h : a = b) : Lib.compareInt a b = 0 := by unfold Lib.compareInt; rw [if_neg (by omega), if_neg (by omega)]
theorem cmp_eq (a b d : Int) (w : World) (hd : Lib.compareInt a b = d) : Calls Try.prog 57 #[.int .i64 a, .int .i64 b] w fun e w' => e = .returned (.int .i64 d) ∧ w = w' :=
  (Try.cmp_Compare_int a b w).mono fun e w' ⟨he, hw⟩ => ⟨by rw [he, hd], hw.symm⟩
set_option maxRecDepth 100000 in
set_option maxHeartbeats 1000000 in
theorem or2_any (q : Nat) (a b : Int) (w : World) (h : Blk w q 3 #[.int .i64 a, .int .i64 b]) :
    Calls Try.prog 56 #[.slice (some ⟨q, 0, none⟩) 2 2] w fun e w' => e = .returned (.int .i64 (if a = 0 then b else a)) ∧ w = w' := by
  have e0 := h.cell 0
  have e1 := h.cell 1
  by_cases h0 : a = 0
  · subst h0
    by_cases h1 : b = 0
    · subst h1
      go_enter Try.func56, Try.ntmps56
      go_wp2
      go_loopw [8] (fun i wr => ∃ k : Nat, k ≤ 2 ∧ i = .int .i64 k ∧ wr = w) (fun i _ => 2 - (intOf i).toNat)
      case atStart => exact ⟨0, by omega, rfl, rfl⟩
      case round =>
        obtain ⟨k, hk, rfl, hw⟩ := hrel
        subst hw
        match k, hk with
        | 0, _ =>
          go_wp2
          go_roundw
          case rel => exact ⟨1, by omega, rfl, by first | rfl | trivial⟩
          case measure => simp [intOf]
        | 1, _ =>
          go_wp2
          go_roundw
          case rel => exact ⟨2, by omega, rfl, by first | rfl | trivial⟩
          case measure => simp [intOf]
        | 2, _ =>
          go_wp2
          go_ret
          exact ⟨rfl, rfl⟩
    · have h1' : (b == 0) = false := by simp [h1]
      have h1'' : (b != 0) = true := by simp [h1]
      clear h1
      go_enter Try.func56, Try.ntmps56
      go_wp2
      go_loopw [8] (fun i wr => ∃ k : Nat, k ≤ 1 ∧ i = .int .i64 k ∧ wr = w) (fun i _ => 2 - (intOf i).toNat)
      case atStart => exact ⟨0, by omega, rfl, rfl⟩
      case round =>
        obtain ⟨k, hk, rfl, hw⟩ := hrel
        subst hw
        match k, hk with
        | 0, _ =>
          go_wp2
          go_roundw
          case rel => exact ⟨1, by omega, rfl, by first | rfl | trivial⟩
          case measure => simp [intOf]
        | 1, _ =>
          go_wp2
          go_ret
          exact ⟨rfl, rfl⟩
  · rw [if_neg h0]
    have h0' : (a == 0) = false := by simp [h0]
    have h0'' : (a != 0) = true := by simp [h0]
    clear h0
    go_enter Try.func56, Try.ntmps56
    go_wp2
    go_loopw [8] (fun i wr => i = .int .i64 0 ∧ wr = w) (fun _ _ => 0)
    case atStart => exact ⟨rfl, rfl⟩
    case round =>
      obtain ⟨rfl, hw⟩ := hrel
      subst hw
      go_wp2
      go_ret
      exact ⟨rfl, rfl⟩
theorem or2_eq (q : Nat) (a b v : Int) (w : World) (h : Blk w q 3 #[.int .i64 a, .int .i64 b]) (hv : (if a = 0 then b else a) = v) :
    Calls Try.prog 56 #[.slice (some ⟨q, 0, none⟩) 2 2] w fun e w' => e = .returned (.int .i64 v) ∧ w = w' := hv ▸ or2_any q a b w h
/-- How two sheets compare. -/
def cmpS (p a : WorkSheetR) : Int := if Lib.compareInt p.f1 a.f1 = 0 then Lib.compareInt p.f0 a.f0 else Lib.compareInt p.f1 a.f1
theorem cmpS_bef (p a : WorkSheetR) : 0 ≤ cmpS p a ↔ ¬ bef p a := by
  unfold cmpS bef
  rcases Int.lt_trichotomy p.f1 a.f1 with h | h | h
  · rw [compareInt_lt h]; simp [h]
  · rw [compareInt_eq h, if_pos rfl]
    rcases Int.lt_trichotomy p.f0 a.f0 with h2 | h2 | h2
    · rw [compareInt_lt h2]; simp [h, h2]
    · rw [compareInt_eq h2]; simp [h, h2]
    · rw [compareInt_gt h2]; simp [h]; omega
  · rw [compareInt_gt h]; simp; omega
theorem al_cell {w : World} {o : Obj} {b off : Nat} {v : Value} (h : w.cell? ⟨b, off, none⟩ = some v) (hb : b < w.heap.size) : ((w.alloc o).drew).cell? ⟨b, off, none⟩ = some v :=
  (World.cell?_alloc_lt w o ⟨b, off, none⟩ hb).trans h
set_option maxRecDepth 100000 in
set_option maxHeartbeats 4000000 in
theorem compareSheets_any (p a : WorkSheetR) (v : Int) (w : World) (hv : cmpS p a = v) : Calls Try.prog 46 #[.agg #[.int .i64 p.f0, .int .i64 p.f1, .int .i64 p.f2, .int .i64 p.f3, .int .i64 p.f4], .agg #[.int .i64 a.f0, .int .i64 a.f1, .int .i64 a.f2, .int .i64 a.f3, .int .i64 a.f4]] w (Out w (.int .i64 v)) := by
  obtain ⟨c1, hc1⟩ : ∃ k, Lib.compareInt p.f1 a.f1 = k := ⟨_, rfl⟩
  obtain ⟨c2, hc2⟩ : ∃ k, Lib.compareInt p.f0 a.f0 = k := ⟨_, rfl⟩
  have hr : (if c1 = 0 then c2 else c1) = v := by rw [← hv, ← hc1, ← hc2]; rfl
  have K1 := Lib.hid (fun w => cmp_eq p.f1 a.f1 c1 w hc1)
  have K2 := Lib.hid (fun w => cmp_eq p.f0 a.f0 c2 w hc2)
  have K3 := Lib.hid (fun w q (h : Blk w q 3 #[.int .i64 c1, .int .i64 c2]) => or2_eq q c1 c2 v w h hr)
  clear hv hc1 hc2 hr
  have bx := (Blk.new w #[.int .i64 p.f0, .int .i64 p.f1, .int .i64 p.f2, .int .i64 p.f3, .int .i64 p.f4] 36).alloc (.cells #[.int .i64 a.f0, .int .i64 a.f1, .int .i64 a.f2, .int .i64 a.f3, .int .i64 a.f4] 36)
  have byy := Blk.new (w.alloc (.cells #[.int .i64 p.f0, .int .i64 p.f1, .int .i64 p.f2, .int .i64 p.f3, .int .i64 p.f4] 36)) #[.int .i64 a.f0, .int .i64 a.f1, .int .i64 a.f2, .int .i64 a.f3, .int .i64 a.f4] 36
  rw [show (w.alloc (.cells #[.int .i64 p.f0, .int .i64 p.f1, .int .i64 p.f2, .int .i64 p.f3, .int .i64 p.f4] 36)).heap.size = w.heap.size + 1 by simp] at byy
  have HB := Lib.hid (show Below w.heap.size w ((w.alloc (.cells #[.int .i64 p.f0, .int .i64 p.f1, .int .i64 p.f2, .int .i64 p.f3, .int .i64 p.f4] 36)).alloc (.cells #[.int .i64 a.f0, .int .i64 a.f1, .int .i64 a.f2, .int .i64 a.f3, .int .i64 a.f4] 36)) by repeat (first | assumption | exact Below.refl _ _ | refine belowN ?_ _ | refine belowD ?_ | (refine Below.setCell ?_ (by first | (simp; done) | (simp; omega) | omega) _) | (refine Below.alloc ?_ (by first | (simp; done) | (simp; omega) | omega) _)))
  have hz2 := byy.lt
  go_enter Try.func46, Try.ntmps46
  go_wp2
  obtain ⟨w2, HW2⟩ : ∃ w2, Hid (w2 = ((w.alloc (.cells #[.int .i64 p.f0, .int .i64 p.f1, .int .i64 p.f2, .int .i64 p.f3, .int .i64 p.f4] 36)).alloc (.cells #[.int .i64 a.f0, .int .i64 a.f1, .int .i64 a.f2, .int .i64 a.f3, .int .i64 a.f4] 36))) := ⟨_, rfl⟩
  rw [← HW2.out] at bx byy hz2 HB ⊢
  obtain ⟨Q, hQ⟩ : ∃ Q, w.heap.size = Q := ⟨_, rfl⟩
  rw [hQ] at bx byy hz2 HB ⊢
  have u0 : w2.cell? ⟨Q, 0, none⟩ = some (.int .i64 p.f0) := bx.cell 0
  have u1 : w2.cell? ⟨Q, 1, none⟩ = some (.int .i64 p.f1) := bx.cell 1
  have v0 : w2.cell? ⟨Q + 1, 0, none⟩ = some (.int .i64 a.f0) := byy.cell 0
  have v1 : w2.cell? ⟨Q + 1, 1, none⟩ = some (.int .i64 a.f1) := byy.cell 1
  have hQz : Q < w2.heap.size := by omega
  have hlit : Blk ((w2.alloc (.cells #[.int .i64 c1, .int .i64 c2] 3)).drew) w2.heap.size 3 #[.int .i64 c1, .int .i64 c2] := Blk.new w2 _ _
  go_region_held3 (fun w' => w'.cell? ⟨Q, 0, none⟩ = some (.int .i64 p.f0) ∧ w'.cell? ⟨Q, 1, none⟩ = some (.int .i64 p.f1) ∧ w'.cell? ⟨Q + 1, 0, none⟩ = some (.int .i64 a.f0) ∧ w'.cell? ⟨Q + 1, 1, none⟩ = some (.int .i64 a.f1)) (first | exact ⟨u0, u1, v0, v1⟩ | exact ⟨al_cell u0 hQz, al_cell u1 hQz, al_cell v0 hz2, al_cell v1 hz2⟩ | go_keep) (first | (go_at_call 57; (with_reducible refine (K1.out _).mono ?_); rintro e w5 ⟨rfl, rfl⟩) | (go_at_call 57; (with_reducible refine (K2.out _).mono ?_); rintro e w5 ⟨rfl, rfl⟩) | (go_at_call 56; (with_reducible refine (K3.out _ _ hlit).mono ?_); rintro e w5 ⟨rfl, rfl⟩))
  all_goals
    have hbo := HB.out
    have hqs := hbo.size
    subst hQ
    go_wp2
    go_ret
    exact ⟨rfl, by repeat (first | assumption | exact Below.refl _ _ | refine belowN ?_ _ | refine belowD ?_ | (refine Below.setCell ?_ (by first | (simp; done) | (simp; omega) | omega) _) | (refine Below.alloc ?_ (by first | (simp; done) | (simp; omega) | omega) _))⟩
/-- The wage with its parts as letters. -/
theorem wage_letters {r : RatesR} {s : WorkSheetR} (hr : ratesB r = true) (hs : Knotty s) : ∃ q m d n g f : Int, Hid (s.f2 - s.f3 = q ∧ r.f0 * q = m ∧ Int.tdiv m 1000 = d ∧ r.f1 * s.f4 = n ∧ Int.tdiv s.f3 100 = g ∧ r.f4 * g = f) ∧ (0 ≤ q ∧ q ≤ 12000) ∧ (0 ≤ m ∧ m ≤ 120000000) ∧ (0 ≤ d ∧ d ≤ 120000) ∧ (0 ≤ n ∧ n ≤ 120000) ∧ (0 ≤ g ∧ g ≤ 120) ∧ (0 ≤ f ∧ f ≤ 1200000) ∧ (0 ≤ r.f2 ∧ r.f2 ≤ 10000) ∧ (0 ≤ r.f3 ∧ r.f3 ≤ 10000) ∧ Hid (wageI r s = mostI r.f2 (d + n + (if 8000 ≤ q then r.f3 else 0) - f)) := by
  obtain ⟨⟨m0, m1⟩, ⟨n0, n1⟩, ⟨b0, b1⟩, f0, f1⟩ := wage_parts hr hs
  obtain ⟨⟨k0, k1⟩, ⟨x0, x1⟩, _⟩ := hs
  have hl := (rates_of hr).2.2.1
  have d1 : Int.tdiv (r.f0 * (s.f2 - s.f3)) 1000 = r.f0 * (s.f2 - s.f3) / 1000 := Int.tdiv_eq_ediv_of_nonneg m0
  have d2 : Int.tdiv s.f3 100 = s.f3 / 100 := Int.tdiv_eq_ediv_of_nonneg x0
  have h3 := (rates_of hr).2.2.2.1
  refine ⟨_, _, _, _, _, _, Lib.hid ⟨rfl, rfl, d1, rfl, d2, rfl⟩, ⟨by omega, by omega⟩, ⟨m0, m1⟩, ⟨by omega, by omega⟩, ⟨n0, n1⟩, ⟨by omega, by omega⟩, ⟨f0, f1⟩, hl, h3, Lib.hid rfl⟩
set_option maxRecDepth 100000 in
set_option maxHeartbeats 8000000 in
theorem wageOf_any (r : RatesR) (s : WorkSheetR) (w : World) (hr : ratesB r = true) (hs : Knotty s) : Calls Try.prog 32 #[.agg #[.int .i64 r.f0, .int .i64 r.f1, .int .i64 r.f2, .int .i64 r.f3, .int .i64 r.f4], .agg #[.int .i64 s.f0, .int .i64 s.f1, .int .i64 s.f2, .int .i64 s.f3, .int .i64 s.f4]] w (Out w (.int .i64 (wageI r s))) := by
  obtain ⟨q, m, d, n, g, f, HD, ⟨q0, q1⟩, ⟨m0, m1⟩, ⟨d0, d1⟩, ⟨n0, n1⟩, ⟨g0, g1⟩, ⟨f0, f1⟩, ⟨l0, l1⟩, ⟨b0, b1⟩, HV⟩ := wage_letters hr hs
  have y0 := (Blk.new w #[.int .i64 r.f0, .int .i64 r.f1, .int .i64 r.f2, .int .i64 r.f3, .int .i64 r.f4] 25).alloc (.cells #[.int .i64 s.f0, .int .i64 s.f1, .int .i64 s.f2, .int .i64 s.f3, .int .i64 s.f4] 36)
  have y1 := Blk.new (w.alloc (.cells #[.int .i64 r.f0, .int .i64 r.f1, .int .i64 r.f2, .int .i64 r.f3, .int .i64 r.f4] 25)) #[.int .i64 s.f0, .int .i64 s.f1, .int .i64 s.f2, .int .i64 s.f3, .int .i64 s.f4] 36
  rw [show (w.alloc (.cells #[.int .i64 r.f0, .int .i64 r.f1, .int .i64 r.f2, .int .i64 r.f3, .int .i64 r.f4] 25)).heap.size = w.heap.size + 1 by simp] at y1
  have HB := Lib.hid (show Below w.heap.size w ((w.alloc (.cells #[.int .i64 r.f0, .int .i64 r.f1, .int .i64 r.f2, .int .i64 r.f3, .int .i64 r.f4] 25)).alloc (.cells #[.int .i64 s.f0, .int .i64 s.f1, .int .i64 s.f2, .int .i64 s.f3, .int .i64 s.f4] 36)) by repeat (first | assumption | exact Below.refl _ _ | refine belowN ?_ _ | refine belowD ?_ | (refine Below.setCell ?_ (by first | (simp; done) | (simp; omega) | omega) _) | (refine Below.alloc ?_ (by first | (simp; done) | (simp; omega) | omega) _)))
  obtain ⟨e1, e2, e3, e4, e5, e6⟩ := HD.out
  have HC := Lib.hid (fun w => right_eq s q w hs e1)
  have g1' : IntKind.i64.wrap m = m := IntWalk.i64_in _ (by omega)
  have g2' : IntKind.i64.wrap n = n := IntWalk.i64_in _ (by omega)
  have g3' : IntKind.i64.wrap (d + n) = d + n := IntWalk.i64_in _ (by omega)
  have g4' : IntKind.i64.wrap d = d := IntWalk.i64_in _ (by omega)
  have g5' : IntKind.i64.wrap f = f := IntWalk.i64_in _ (by omega)
  have g6' : IntKind.i64.wrap g = g := IntWalk.i64_in _ (by omega)
  clear e1
  go_enter Try.func32, Try.ntmps32
  go_wp2
  generalize ((w.alloc (.cells #[.int .i64 r.f0, .int .i64 r.f1, .int .i64 r.f2, .int .i64 r.f3, .int .i64 r.f4] 25)).alloc (.cells #[.int .i64 s.f0, .int .i64 s.f1, .int .i64 s.f2, .int .i64 s.f3, .int .i64 s.f4] 36)) = w2 at *
  obtain ⟨Q0, hQ0⟩ : ∃ Q0, w.heap.size = Q0 := ⟨_, rfl⟩
  obtain ⟨Q1, hQ1⟩ : ∃ Q1, Q0 + 1 = Q1 := ⟨_, rfl⟩
  rw [hQ0] at y0 y1 ⊢
  rw [hQ1] at y1 ⊢
  clear hQ1
  go_region_held3 (fun w' => w'.cell? ⟨Q0, 0, none⟩ = some (.int .i64 r.f0) ∧ w'.cell? ⟨Q0, 1, none⟩ = some (.int .i64 r.f1) ∧ w'.cell? ⟨Q0, 2, none⟩ = some (.int .i64 r.f2) ∧ w'.cell? ⟨Q0, 3, none⟩ = some (.int .i64 r.f3) ∧ w'.cell? ⟨Q0, 4, none⟩ = some (.int .i64 r.f4) ∧ w'.cell? ⟨Q1, 0, none⟩ = some (.int .i64 s.f0) ∧ w'.cell? ⟨Q1, 1, none⟩ = some (.int .i64 s.f1) ∧ w'.cell? ⟨Q1, 2, none⟩ = some (.int .i64 s.f2) ∧ w'.cell? ⟨Q1, 3, none⟩ = some (.int .i64 s.f3) ∧ w'.cell? ⟨Q1, 4, none⟩ = some (.int .i64 s.f4)) (first | exact ⟨y0.cell 0, y0.cell 1, y0.cell 2, y0.cell 3, y0.cell 4, y1.cell 0, y1.cell 1, y1.cell 2, y1.cell 3, y1.cell 4⟩ | go_keep) (first | (go_at_call 52; (with_reducible refine (HC.out _).mono ?_); rintro e w1 ⟨rfl, hb⟩; (try replace hb := below_drew' hb); replace y0 := y0.all hb; replace y1 := y1.all hb; replace HB := Lib.hid (HB.out.trans (hb.mono HB.out.size))))
  all_goals
    simp only [e2, e3, e4, g1', g2', g3', g4'] at *
    by_cases hbo : 8000 ≤ q
    · have HV2 := Lib.hid (show wageI r s = mostI r.f2 (d + n + r.f3 - f) by rw [HV.out, if_pos hbo])
      have g7 : IntKind.i64.wrap (d + n + r.f3) = d + n + r.f3 := IntWalk.i64_in _ (by omega)
      have g8 : IntKind.i64.wrap (d + n + r.f3 - f) = d + n + r.f3 - f := IntWalk.i64_in _ (by omega)
      have c00 := y0.cell 0
      have c01 := y0.cell 1
      have c02 := y0.cell 2
      have c03 := y0.cell 3
      have c04 := y0.cell 4
      have c10 := y1.cell 0
      have c11 := y1.cell 1
      have c12 := y1.cell 2
      have c13 := y1.cell 3
      have c14 := y1.cell 4
      go_wp2_with fail
      refine (HC.out _).mono ?_
      rintro e w3 ⟨rfl, hb3⟩
      replace y0 := y0.all hb3
      replace y1 := y1.all hb3
      replace HB := Lib.hid (HB.out.trans (hb3.mono HB.out.size))
      have cx00 := y0.cell 0
      have cx01 := y0.cell 1
      have cx02 := y0.cell 2
      have cx03 := y0.cell 3
      have cx04 := y0.cell 4
      have cx10 := y1.cell 0
      have cx11 := y1.cell 1
      have cx12 := y1.cell 2
      have cx13 := y1.cell 3
      have cx14 := y1.cell 4
      go_wp2
      all_goals
        go_ret
        exact ⟨ret_int (by rw [HV2.out]; unfold mostI; split <;> omega), by subst hQ0; exact HB.out⟩
    · have HV2 := Lib.hid (show wageI r s = mostI r.f2 (d + n - f) by rw [HV.out, if_neg hbo]; congr 1; omega)
      have g8 : IntKind.i64.wrap (d + n - f) = d + n - f := IntWalk.i64_in _ (by omega)
      have c00 := y0.cell 0
      have c01 := y0.cell 1
      have c02 := y0.cell 2
      have c03 := y0.cell 3
      have c04 := y0.cell 4
      have c10 := y1.cell 0
      have c11 := y1.cell 1
      have c12 := y1.cell 2
      have c13 := y1.cell 3
      have c14 := y1.cell 4
      go_wp2_with fail
      refine (HC.out _).mono ?_
      rintro e w3 ⟨rfl, hb3⟩
      replace y0 := y0.all hb3
      replace y1 := y1.all hb3
      replace HB := Lib.hid (HB.out.trans (hb3.mono HB.out.size))
      have cx00 := y0.cell 0
      have cx01 := y0.cell 1
      have cx02 := y0.cell 2
      have cx03 := y0.cell 3
      have cx04 := y0.cell 4
      have cx10 := y1.cell 0
      have cx11 := y1.cell 1
      have cx12 := y1.cell 2
      have cx13 := y1.cell 3
      have cx14 := y1.cell 4
      go_wp2
      all_goals
        go_ret
        exact ⟨ret_int (by rw [HV2.out]; unfold mostI; split <;> omega), by subst hQ0; exact HB.out⟩
theorem wageOf_eq (r : RatesR) (s : WorkSheetR) (v : Int) (w : World) (hr : ratesB r = true) (hs : Knotty s) (hv : wageI r s = v) : Calls Try.prog 32 #[.agg #[.int .i64 r.f0, .int .i64 r.f1, .int .i64 r.f2, .int .i64 r.f3, .int .i64 r.f4], .agg #[.int .i64 s.f0, .int .i64 s.f1, .int .i64 s.f2, .int .i64 s.f3, .int .i64 s.f4]] w (Out w (.int .i64 v)) := hv ▸ wageOf_any r s w hr hs
set_option maxRecDepth 100000 in
set_option maxHeartbeats 4000000 in
theorem l14Wage_any (r : RatesR) (s : WorkSheetR) (w : World) (hr : ratesB r = true) (hs : Knotty s) : Calls Try.prog 39 #[.agg #[.int .i64 r.f0, .int .i64 r.f1, .int .i64 r.f2, .int .i64 r.f3, .int .i64 r.f4], .agg #[.int .i64 s.f0, .int .i64 s.f1, .int .i64 s.f2, .int .i64 s.f3, .int .i64 s.f4]] w (Out w (.int .i64 (wageI r s))) := by
  obtain ⟨q, m, d, n, g, f, HD, ⟨q0, q1⟩, ⟨m0, m1⟩, ⟨d0, d1⟩, ⟨n0, n1⟩, ⟨g0, g1⟩, ⟨f0, f1⟩, ⟨l0, l1⟩, ⟨b0, b1⟩, HV⟩ := wage_letters hr hs
  have y0 := (Blk.new w #[.int .i64 r.f0, .int .i64 r.f1, .int .i64 r.f2, .int .i64 r.f3, .int .i64 r.f4] 25).alloc (.cells #[.int .i64 s.f0, .int .i64 s.f1, .int .i64 s.f2, .int .i64 s.f3, .int .i64 s.f4] 36)
  have y1 := Blk.new (w.alloc (.cells #[.int .i64 r.f0, .int .i64 r.f1, .int .i64 r.f2, .int .i64 r.f3, .int .i64 r.f4] 25)) #[.int .i64 s.f0, .int .i64 s.f1, .int .i64 s.f2, .int .i64 s.f3, .int .i64 s.f4] 36
  rw [show (w.alloc (.cells #[.int .i64 r.f0, .int .i64 r.f1, .int .i64 r.f2, .int .i64 r.f3, .int .i64 r.f4] 25)).heap.size = w.heap.size + 1 by simp] at y1
  have HB := Lib.hid (show Below w.heap.size w ((w.alloc (.cells #[.int .i64 r.f0, .int .i64 r.f1, .int .i64 r.f2, .int .i64 r.f3, .int .i64 r.f4] 25)).alloc (.cells #[.int .i64 s.f0, .int .i64 s.f1, .int .i64 s.f2, .int .i64 s.f3, .int .i64 s.f4] 36)) by repeat (first | assumption | exact Below.refl _ _ | refine belowN ?_ _ | refine belowD ?_ | (refine Below.setCell ?_ (by first | (simp; done) | (simp; omega) | omega) _) | (refine Below.alloc ?_ (by first | (simp; done) | (simp; omega) | omega) _)))
  obtain ⟨e1, e2, e3, e4, e5, e6⟩ := HD.out
  have g1' : IntKind.i64.wrap m = m := IntWalk.i64_in _ (by omega)
  have g2' : IntKind.i64.wrap n = n := IntWalk.i64_in _ (by omega)
  have g3' : IntKind.i64.wrap (d + n) = d + n := IntWalk.i64_in _ (by omega)
  have g4' : IntKind.i64.wrap d = d := IntWalk.i64_in _ (by omega)
  have g5' : IntKind.i64.wrap f = f := IntWalk.i64_in _ (by omega)
  have g6' : IntKind.i64.wrap g = g := IntWalk.i64_in _ (by omega)
  have g7' : IntKind.i64.wrap q = q := IntWalk.i64_in _ (by omega)
  have g8' : IntKind.i64.wrap (d + n - f) = d + n - f := IntWalk.i64_in _ (by omega)
  have g9' : IntKind.i64.wrap (d + n - f + r.f3) = d + n - f + r.f3 := IntWalk.i64_in _ (by omega)
  by_cases hbo : 8000 ≤ q
  · have HV2 := Lib.hid (show wageI r s = mostI r.f2 (d + n - f + r.f3) by rw [HV.out, if_pos hbo]; congr 1; omega)
    go_enter Try.func39, Try.ntmps39
    go_wp2_with (go_at_call 54; (with_reducible refine (l1Most_any _ _ _).mono ?_); rintro e w' ⟨rfl, rfl⟩)
    go_ret
    exact ⟨ret_int HV2.out.symm, HB.out⟩
  · have HV2 := Lib.hid (show wageI r s = mostI r.f2 (d + n - f) by rw [HV.out, if_neg hbo]; congr 1; omega)
    go_enter Try.func39, Try.ntmps39
    go_wp2_with (go_at_call 54; (with_reducible refine (l1Most_any _ _ _).mono ?_); rintro e w' ⟨rfl, rfl⟩)
    go_ret
    exact ⟨ret_int HV2.out.symm, HB.out⟩
theorem l14Wage_eq (r : RatesR) (s : WorkSheetR) (v : Int) (w : World) (hr : ratesB r = true) (hs : Knotty s) (hv : wageI r s = v) : Calls Try.prog 39 #[.agg #[.int .i64 r.f0, .int .i64 r.f1, .int .i64 r.f2, .int .i64 r.f3, .int .i64 r.f4], .agg #[.int .i64 s.f0, .int .i64 s.f1, .int .i64 s.f2, .int .i64 s.f3, .int .i64 s.f4]] w (Out w (.int .i64 v)) := hv ▸ l14Wage_any r s w hr hs
noncomputable def wage14 (r : RatesR) (s : WorkSheetR) : Int × Bool := if ratesB r = true ∧ sheetB s = true then (wageI r s, true) else (0, false)
theorem wage14_no1 {r : RatesR} {s : WorkSheetR} (h : ¬ ratesB r = true) : wage14 r s = (0, false) := if_neg fun hh => h hh.1
theorem wage14_no2 {r : RatesR} {s : WorkSheetR} (h : ¬ sheetB s = true) : wage14 r s = (0, false) := if_neg fun hh => h hh.2
theorem wage14_yes {r : RatesR} {s : WorkSheetR} (h : ratesB r = true) (h2 : sheetB s = true) : wage14 r s = (wageI r s, true) := if_pos ⟨h, h2⟩
set_option maxRecDepth 100000 in
set_option maxHeartbeats 4000000 in
theorem implWageOf_any (r : RatesR) (s : WorkSheetR) (w : World) : Calls Try.prog 9 #[.agg #[.int .i64 r.f0, .int .i64 r.f1, .int .i64 r.f2, .int .i64 r.f3, .int .i64 r.f4], .agg #[.int .i64 s.f0, .int .i64 s.f1, .int .i64 s.f2, .int .i64 s.f3, .int .i64 s.f4]] w (Out w (.tuple #[.int .i64 (wage14 r s).1, .bool (wage14 r s).2])) := by
  have y0 := (Blk.new w #[.int .i64 r.f0, .int .i64 r.f1, .int .i64 r.f2, .int .i64 r.f3, .int .i64 r.f4] 25).alloc (.cells #[.int .i64 s.f0, .int .i64 s.f1, .int .i64 s.f2, .int .i64 s.f3, .int .i64 s.f4] 36)
  have y1 := Blk.new (w.alloc (.cells #[.int .i64 r.f0, .int .i64 r.f1, .int .i64 r.f2, .int .i64 r.f3, .int .i64 r.f4] 25)) #[.int .i64 s.f0, .int .i64 s.f1, .int .i64 s.f2, .int .i64 s.f3, .int .i64 s.f4] 36
  rw [show (w.alloc (.cells #[.int .i64 r.f0, .int .i64 r.f1, .int .i64 r.f2, .int .i64 r.f3, .int .i64 r.f4] 25)).heap.size = w.heap.size + 1 by simp] at y1
  have HB : Below w.heap.size w ((w.alloc (.cells #[.int .i64 r.f0, .int .i64 r.f1, .int .i64 r.f2, .int .i64 r.f3, .int .i64 r.f4] 25)).alloc (.cells #[.int .i64 s.f0, .int .i64 s.f1, .int .i64 s.f2, .int .i64 s.f3, .int .i64 s.f4] 36)) := by repeat (first | assumption | exact Below.refl _ _ | refine belowN ?_ _ | refine belowD ?_ | (refine Below.setCell ?_ (by first | (simp; done) | (simp; omega) | omega) _) | (refine Below.alloc ?_ (by first | (simp; done) | (simp; omega) | omega) _))
  have c00 := y0.cell 0
  have c01 := y0.cell 1
  have c02 := y0.cell 2
  have c03 := y0.cell 3
  have c04 := y0.cell 4
  have c10 := y1.cell 0
  have c11 := y1.cell 1
  have c12 := y1.cell 2
  have c13 := y1.cell 3
  have c14 := y1.cell 4
  by_cases hr : ratesB r = true
  rotate_left
  · have hr' := not_false hr
    rw [wage14_no1 hr]
    go_enter Try.func9, Try.ntmps9
    go_wp2_with fail
    refine (implAreRates_eq r _ _ hr').mono ?_
    rintro e wa ⟨rfl, hb⟩
    replace y0 := y0.all hb
    replace y1 := y1.all hb
    replace HB := HB.trans (hb.mono HB.size)
    clear hb
    have cwa00 := y0.cell 0
    have cwa01 := y0.cell 1
    have cwa02 := y0.cell 2
    have cwa03 := y0.cell 3
    have cwa04 := y0.cell 4
    have cwa10 := y1.cell 0
    have cwa11 := y1.cell 1
    have cwa12 := y1.cell 2
    have cwa13 := y1.cell 3
    have cwa14 := y1.cell 4
    go_wp2
    go_ret2
    exact ⟨rfl, HB⟩
  by_cases hs : sheetB s = true
  rotate_left
  · have hs' := not_false hs
    rw [wage14_no2 hs]
    go_enter Try.func9, Try.ntmps9
    go_wp2_with fail
    refine (implAreRates_eq r _ _ hr).mono ?_
    rintro e wa ⟨rfl, hb⟩
    replace y0 := y0.all hb
    replace y1 := y1.all hb
    replace HB := HB.trans (hb.mono HB.size)
    clear hb
    have cwa00 := y0.cell 0
    have cwa01 := y0.cell 1
    have cwa02 := y0.cell 2
    have cwa03 := y0.cell 3
    have cwa04 := y0.cell 4
    have cwa10 := y1.cell 0
    have cwa11 := y1.cell 1
    have cwa12 := y1.cell 2
    have cwa13 := y1.cell 3
    have cwa14 := y1.cell 4
    go_wp2_with fail
    refine (implIsWorkSheet_eq s _ _ hs').mono ?_
    rintro e wb ⟨rfl, hb⟩
    replace y0 := y0.all hb
    replace y1 := y1.all hb
    replace HB := HB.trans (hb.mono HB.size)
    clear hb
    have cwb00 := y0.cell 0
    have cwb01 := y0.cell 1
    have cwb02 := y0.cell 2
    have cwb03 := y0.cell 3
    have cwb04 := y0.cell 4
    have cwb10 := y1.cell 0
    have cwb11 := y1.cell 1
    have cwb12 := y1.cell 2
    have cwb13 := y1.cell 3
    have cwb14 := y1.cell 4
    go_wp2
    go_ret2
    exact ⟨rfl, HB⟩
  rw [wage14_yes hr hs]
  go_enter Try.func9, Try.ntmps9
  go_wp2_with fail
  refine (implAreRates_eq r _ _ hr).mono ?_
  rintro e wa ⟨rfl, hb⟩
  replace y0 := y0.all hb
  replace y1 := y1.all hb
  replace HB := HB.trans (hb.mono HB.size)
  clear hb
  have cwa00 := y0.cell 0
  have cwa01 := y0.cell 1
  have cwa02 := y0.cell 2
  have cwa03 := y0.cell 3
  have cwa04 := y0.cell 4
  have cwa10 := y1.cell 0
  have cwa11 := y1.cell 1
  have cwa12 := y1.cell 2
  have cwa13 := y1.cell 3
  have cwa14 := y1.cell 4
  go_wp2_with fail
  refine (implIsWorkSheet_eq s _ _ hs).mono ?_
  rintro e wb ⟨rfl, hb⟩
  replace y0 := y0.all hb
  replace y1 := y1.all hb
  replace HB := HB.trans (hb.mono HB.size)
  clear hb
  have cwb00 := y0.cell 0
  have cwb01 := y0.cell 1
  have cwb02 := y0.cell 2
  have cwb03 := y0.cell 3
  have cwb04 := y0.cell 4
  have cwb10 := y1.cell 0
  have cwb11 := y1.cell 1
  have cwb12 := y1.cell 2
  have cwb13 := y1.cell 3
  have cwb14 := y1.cell 4
  go_wp2_with fail
  refine (wageOf_any r s _ hr (sheet_knotty hs)).mono ?_
  rintro e wc ⟨rfl, hb⟩
  replace y0 := y0.all hb
  replace y1 := y1.all hb
  replace HB := HB.trans (hb.mono HB.size)
  clear hb
  have cwc00 := y0.cell 0
  have cwc01 := y0.cell 1
  have cwc02 := y0.cell 2
  have cwc03 := y0.cell 3
  have cwc04 := y0.cell 4
  have cwc10 := y1.cell 0
  have cwc11 := y1.cell 1
  have cwc12 := y1.cell 2
  have cwc13 := y1.cell 3
  have cwc14 := y1.cell 4
  go_wp2
  go_ret2
  exact ⟨rfl, HB⟩
set_option maxRecDepth 100000 in
set_option maxHeartbeats 4000000 in
theorem specWageOf_any (r : RatesR) (s : WorkSheetR) (w : World) : Calls Try.prog 19 #[.agg #[.int .i64 r.f0, .int .i64 r.f1, .int .i64 r.f2, .int .i64 r.f3, .int .i64 r.f4], .agg #[.int .i64 s.f0, .int .i64 s.f1, .int .i64 s.f2, .int .i64 s.f3, .int .i64 s.f4]] w (Out w (.tuple #[.int .i64 (wage14 r s).1, .bool (wage14 r s).2])) := by
  have y0 := (Blk.new w #[.int .i64 r.f0, .int .i64 r.f1, .int .i64 r.f2, .int .i64 r.f3, .int .i64 r.f4] 25).alloc (.cells #[.int .i64 s.f0, .int .i64 s.f1, .int .i64 s.f2, .int .i64 s.f3, .int .i64 s.f4] 36)
  have y1 := Blk.new (w.alloc (.cells #[.int .i64 r.f0, .int .i64 r.f1, .int .i64 r.f2, .int .i64 r.f3, .int .i64 r.f4] 25)) #[.int .i64 s.f0, .int .i64 s.f1, .int .i64 s.f2, .int .i64 s.f3, .int .i64 s.f4] 36
  rw [show (w.alloc (.cells #[.int .i64 r.f0, .int .i64 r.f1, .int .i64 r.f2, .int .i64 r.f3, .int .i64 r.f4] 25)).heap.size = w.heap.size + 1 by simp] at y1
  have HB : Below w.heap.size w ((w.alloc (.cells #[.int .i64 r.f0, .int .i64 r.f1, .int .i64 r.f2, .int .i64 r.f3, .int .i64 r.f4] 25)).alloc (.cells #[.int .i64 s.f0, .int .i64 s.f1, .int .i64 s.f2, .int .i64 s.f3, .int .i64 s.f4] 36)) := by repeat (first | assumption | exact Below.refl _ _ | refine belowN ?_ _ | refine belowD ?_ | (refine Below.setCell ?_ (by first | (simp; done) | (simp; omega) | omega) _) | (refine Below.alloc ?_ (by first | (simp; done) | (simp; omega) | omega) _))
  have c00 := y0.cell 0
  have c01 := y0.cell 1
  have c02 := y0.cell 2
  have c03 := y0.cell 3
  have c04 := y0.cell 4
  have c10 := y1.cell 0
  have c11 := y1.cell 1
  have c12 := y1.cell 2
  have c13 := y1.cell 3
  have c14 := y1.cell 4
  by_cases hr : ratesB r = true
  rotate_left
  · have hr' := not_false hr
    rw [wage14_no1 hr]
    go_enter Try.func19, Try.ntmps19
    go_wp2_with fail
    refine (l14Rates_eq r _ _ hr').mono ?_
    rintro e wa ⟨rfl, hb⟩
    replace y0 := y0.all hb
    replace y1 := y1.all hb
    replace HB := HB.trans (hb.mono HB.size)
    clear hb
    have cwa00 := y0.cell 0
    have cwa01 := y0.cell 1
    have cwa02 := y0.cell 2
    have cwa03 := y0.cell 3
    have cwa04 := y0.cell 4
    have cwa10 := y1.cell 0
    have cwa11 := y1.cell 1
    have cwa12 := y1.cell 2
    have cwa13 := y1.cell 3
    have cwa14 := y1.cell 4
    go_wp2
    go_ret2
    exact ⟨rfl, HB⟩
  by_cases hs : sheetB s = true
  rotate_left
  · have hs' := not_false hs
    rw [wage14_no2 hs]
    go_enter Try.func19, Try.ntmps19
    go_wp2_with fail
    refine (l14Rates_eq r _ _ hr).mono ?_
    rintro e wa ⟨rfl, hb⟩
    replace y0 := y0.all hb
    replace y1 := y1.all hb
    replace HB := HB.trans (hb.mono HB.size)
    clear hb
    have cwa00 := y0.cell 0
    have cwa01 := y0.cell 1
    have cwa02 := y0.cell 2
    have cwa03 := y0.cell 3
    have cwa04 := y0.cell 4
    have cwa10 := y1.cell 0
    have cwa11 := y1.cell 1
    have cwa12 := y1.cell 2
    have cwa13 := y1.cell 3
    have cwa14 := y1.cell 4
    go_wp2_with fail
    refine (l14One_eq s _ _ hs').mono ?_
    rintro e wb ⟨rfl, hb⟩
    replace y0 := y0.all hb
    replace y1 := y1.all hb
    replace HB := HB.trans (hb.mono HB.size)
    clear hb
    have cwb00 := y0.cell 0
    have cwb01 := y0.cell 1
    have cwb02 := y0.cell 2
    have cwb03 := y0.cell 3
    have cwb04 := y0.cell 4
    have cwb10 := y1.cell 0
    have cwb11 := y1.cell 1
    have cwb12 := y1.cell 2
    have cwb13 := y1.cell 3
    have cwb14 := y1.cell 4
    go_wp2
    go_ret2
    exact ⟨rfl, HB⟩
  rw [wage14_yes hr hs]
  go_enter Try.func19, Try.ntmps19
  go_wp2_with fail
  refine (l14Rates_eq r _ _ hr).mono ?_
  rintro e wa ⟨rfl, hb⟩
  replace y0 := y0.all hb
  replace y1 := y1.all hb
  replace HB := HB.trans (hb.mono HB.size)
  clear hb
  have cwa00 := y0.cell 0
  have cwa01 := y0.cell 1
  have cwa02 := y0.cell 2
  have cwa03 := y0.cell 3
  have cwa04 := y0.cell 4
  have cwa10 := y1.cell 0
  have cwa11 := y1.cell 1
  have cwa12 := y1.cell 2
  have cwa13 := y1.cell 3
  have cwa14 := y1.cell 4
  go_wp2_with fail
  refine (l14One_eq s _ _ hs).mono ?_
  rintro e wb ⟨rfl, hb⟩
  replace y0 := y0.all hb
  replace y1 := y1.all hb
  replace HB := HB.trans (hb.mono HB.size)
  clear hb
  have cwb00 := y0.cell 0
  have cwb01 := y0.cell 1
  have cwb02 := y0.cell 2
  have cwb03 := y0.cell 3
  have cwb04 := y0.cell 4
  have cwb10 := y1.cell 0
  have cwb11 := y1.cell 1
  have cwb12 := y1.cell 2
  have cwb13 := y1.cell 3
  have cwb14 := y1.cell 4
  go_wp2_with fail
  refine (l14Wage_any r s _ hr (sheet_knotty hs)).mono ?_
  rintro e wc ⟨rfl, hb⟩
  replace y0 := y0.all hb
  replace y1 := y1.all hb
  replace HB := HB.trans (hb.mono HB.size)
  clear hb
  have cwc00 := y0.cell 0
  have cwc01 := y0.cell 1
  have cwc02 := y0.cell 2
  have cwc03 := y0.cell 3
  have cwc04 := y0.cell 4
  have cwc10 := y1.cell 0
  have cwc11 := y1.cell 1
  have cwc12 := y1.cell 2
  have cwc13 := y1.cell 3
  have cwc14 := y1.cell 4
  go_wp2
  go_ret2
  exact ⟨rfl, HB⟩
end Go.Proofs.Ytihhlldpdfihfaa
