/- The walks over one sheet and over rates: valid or not, right knots, the order of two, a wage; both texts. No condition but as they stand. -/
import Derived.Test.YtnpojmaipndpmaaSheetMath
import Derived.Test.YtnpojmaipndpmaaShelf
import Derived.IntWalk
import Derived.BigQuiet
import Derived.Deep.RegionHeld3
namespace Go.Proofs.Ytnpojmaipndpmaa
open Go.RowKit

set_option maxRecDepth 100000 in
set_option maxHeartbeats 400000 in
theorem isWeaverId_any (x : Int) (w : World) : Calls Try.prog 42 #[.int .i64 x] w fun e w' => e = .returned (.bool (inB x 1 99)) ∧ w = w' := by
  go_enter Try.func42, Try.ntmps42
  go_wp2_with (go_at_call 44; (with_reducible refine (isBetween_any _ _ _ _).mono ?_); rintro e w' ⟨rfl, rfl⟩)
  go_ret
  exact ⟨rfl, rfl⟩
set_option maxRecDepth 100000 in
set_option maxHeartbeats 400000 in
theorem isDay_any (x : Int) (w : World) : Calls Try.prog 43 #[.int .i64 x] w fun e w' => e = .returned (.bool (inB x 0 4000)) ∧ w = w' := by
  go_enter Try.func43, Try.ntmps43
  go_wp2_with (first | fail | (go_at_call 53; (with_reducible refine (l1In_any _ _ _ _).mono ?_); rintro e w' ⟨rfl, rfl⟩))
  all_goals
    go_ret
    exact ⟨ret_bool (by simp [inB, *] <;> omega), rfl⟩
set_option maxRecDepth 100000 in
set_option maxHeartbeats 400000 in
theorem l2Day_any (x : Int) (w : World) : Calls Try.prog 54 #[.int .i64 x] w fun e w' => e = .returned (.bool (inB x 0 4000)) ∧ w = w' := by
  go_enter Try.func54, Try.ntmps54
  go_wp2_with (first | fail | (go_at_call 53; (with_reducible refine (l1In_any _ _ _ _).mono ?_); rintro e w' ⟨rfl, rfl⟩))
  all_goals
    go_ret
    exact ⟨ret_bool (by simp [inB, *] <;> omega), rfl⟩
set_option maxRecDepth 100000 in
set_option maxHeartbeats 1000000 in
theorem implIsWorkSheet_any (s : WorkSheetR) (w : World) : Calls Try.prog 27 #[.agg #[.int .i64 s.f0, .int .i64 s.f1, .int .i64 s.f2, .int .i64 s.f3, .int .i64 s.f4]] w (Tells w (sheetB s)) := by
  have hb0 := Lib.hid (show Below w.heap.size w (w.alloc (.cells #[.int .i64 s.f0, .int .i64 s.f1, .int .i64 s.f2, .int .i64 s.f3, .int .i64 s.f4] 33)) from (Below.refl _ _).alloc (Nat.le_refl _) _)
  go_enter Try.func27, Try.ntmps27
  go_wp2_with (first | (go_at_call 42; (with_reducible refine (isWeaverId_any _ _).mono ?_); rintro e w' ⟨rfl, rfl⟩) | (go_at_call 43; (with_reducible refine (isDay_any _ _).mono ?_); rintro e w' ⟨rfl, rfl⟩) | (go_at_call 44; (with_reducible refine (isBetween_any _ _ _ _).mono ?_); rintro e w' ⟨rfl, rfl⟩))
  all_goals
    go_ret
    exact ⟨ret_bool (by simp [sheetB, *]), hb0.out⟩
theorem implIsWorkSheet_eq (s : WorkSheetR) (w : World) (b : Bool) (h : sheetB s = b) : Calls Try.prog 27 #[.agg #[.int .i64 s.f0, .int .i64 s.f1, .int .i64 s.f2, .int .i64 s.f3, .int .i64 s.f4]] w (Tells w b) := h ▸ implIsWorkSheet_any s w
set_option maxRecDepth 100000 in
set_option maxHeartbeats 1000000 in
theorem l14One_any (s : WorkSheetR) (w : World) : Calls Try.prog 38 #[.agg #[.int .i64 s.f0, .int .i64 s.f1, .int .i64 s.f2, .int .i64 s.f3, .int .i64 s.f4]] w (Tells w (sheetB s)) := by
  have hb0 := Lib.hid (show Below w.heap.size w (w.alloc (.cells #[.int .i64 s.f0, .int .i64 s.f1, .int .i64 s.f2, .int .i64 s.f3, .int .i64 s.f4] 33)) from (Below.refl _ _).alloc (Nat.le_refl _) _)
  go_enter Try.func38, Try.ntmps38
  go_wp2_with (first | (go_at_call 53; (with_reducible refine (l1In_any _ _ _ _).mono ?_); rintro e w' ⟨rfl, rfl⟩) | (go_at_call 54; (with_reducible refine (l2Day_any _ _).mono ?_); rintro e w' ⟨rfl, rfl⟩))
  all_goals
    go_ret
    exact ⟨ret_bool (by simp [sheetB, *]), hb0.out⟩
theorem l14One_eq (s : WorkSheetR) (w : World) (b : Bool) (h : sheetB s = b) : Calls Try.prog 38 #[.agg #[.int .i64 s.f0, .int .i64 s.f1, .int .i64 s.f2, .int .i64 s.f3, .int .i64 s.f4]] w (Tells w b) := h ▸ l14One_any s w
/-- Up to a place all are rates. -/
def ratesN (r : RatesR) : List Int := [r.f0, r.f1, r.f2, r.f3, r.f4]
theorem ratesB_all (r : RatesR) : ratesB r = (ratesN r).all fun x => inB x 0 10000 := by simp [ratesB, ratesN, Bool.and_assoc]
theorem all_bad {xs : List Int} {k : Nat} {x : Int} (hx : xs[k]? = some x) (h : inB x 0 10000 = false) : (xs.all fun x => inB x 0 10000) = false := by
  rw [List.all_eq_false]
  exact ⟨x, List.mem_of_getElem? hx, by rw [h]; decide⟩
set_option maxRecDepth 100000 in
set_option maxHeartbeats 400000 in
theorem right_any (s : WorkSheetR) (w : World) (h : Knotty s) : Calls Try.prog 33 #[.agg #[.int .i64 s.f0, .int .i64 s.f1, .int .i64 s.f2, .int .i64 s.f3, .int .i64 s.f4]] w (Out w (.int .i64 (s.f2 - s.f3))) := by
  have hb0 := Lib.hid (show Below w.heap.size w (w.alloc (.cells #[.int .i64 s.f0, .int .i64 s.f1, .int .i64 s.f2, .int .i64 s.f3, .int .i64 s.f4] 33)) from (Below.refl _ _).alloc (Nat.le_refl _) _)
  obtain ⟨⟨k0, k1⟩, ⟨w0, w1⟩, _⟩ := h
  have e0 : IntKind.i64.wrap (s.f2 - s.f3) = s.f2 - s.f3 := IntWalk.i64_in _ (by omega)
  go_enter Try.func33, Try.ntmps33
  go_wp2
  go_ret
  exact ⟨rfl, hb0.out⟩
theorem right_eq (s : WorkSheetR) (q : Int) (w : World) (h : Knotty s) (hq : s.f2 - s.f3 = q) : Calls Try.prog 33 #[.agg #[.int .i64 s.f0, .int .i64 s.f1, .int .i64 s.f2, .int .i64 s.f3, .int .i64 s.f4]] w (Out w (.int .i64 q)) := hq ▸ right_any s w h
theorem compareInt_lt {a b : Int} (h : a < b) : Lib.compareInt a b = -1 := by unfold Lib.compareInt; rw [if_pos h]
theorem compareInt_gt {a b : Int} (h : b < a) : Lib.compareInt a b = 1 := by unfold Lib.compareInt; rw [if_neg (by omega), if_pos h]
theorem compareInt_eq {a b : Int} (h : a = b) : Lib.compareInt a b = 0 := by unfold Lib.compareInt; rw [if_neg (by omega), if_neg (by omega)]
theorem cmp_eq (a b d : Int) (w : World) (hd : Lib.compareInt a b = d) : Calls Try.prog 23 #[.int .i64 a, .int .i64 b] w fun e w' => e = .returned (.int .i64 d) ∧ w = w' :=
  (Try.cmp_Compare_int a b w).mono fun e w' ⟨he, hw⟩ => ⟨by rw [he, hd], hw.symm⟩
set_option maxRecDepth 100000 in
set_option maxHeartbeats 1000000 in
theorem or2_any (q : Nat) (a b : Int) (w : World) (h : Blk w q 3 #[.int .i64 a, .int .i64 b]) :
    Calls Try.prog 45 #[.slice (some ⟨q, 0, none⟩) 2 2] w fun e w' => e = .returned (.int .i64 (if a = 0 then b else a)) ∧ w = w' := by
  have e0 := h.cell 0
  have e1 := h.cell 1
  by_cases h0 : a = 0
  · subst h0
    by_cases h1 : b = 0
    · subst h1
      go_enter Try.func45, Try.ntmps45
      go_wp2
      go_loopw [8] (fun i wr => ∃ k : Nat, k ≤ 2 ∧ i = .int .i64 k ∧ wr = w) (fun i _ => 2 - (intOf i).toNat)
      case atStart => exact ⟨0, by omega, rfl, rfl⟩
      case round =>
        obtain ⟨k, hk, rfl, hw⟩ := hrel
        subst hw
        match k, hk with
        | 0, _ =>
          go_wp2
          go_roundw
          case rel => exact ⟨1, by omega, rfl, by first | rfl | trivial⟩
          case measure => simp [intOf]
        | 1, _ =>
          go_wp2
          go_roundw
          case rel => exact ⟨2, by omega, rfl, by first | rfl | trivial⟩
          case measure => simp [intOf]
        | 2, _ =>
          go_wp2
          go_ret
          exact ⟨rfl, rfl⟩
    · have h1' : (b == 0) = false := by simp [h1]
      have h1'' : (b != 0) = true := by simp [h1]
      clear h1
      go_enter Try.func45, Try.ntmps45
      go_wp2
      go_loopw [8] (fun i wr => ∃ k : Nat, k ≤ 1 ∧ i = .int .i64 k ∧ wr = w) (fun i _ => 2 - (intOf i).toNat)
      case atStart => exact ⟨0, by omega, rfl, rfl⟩
      case round =>
        obtain ⟨k, hk, rfl, hw⟩ := hrel
        subst hw
        match k, hk with
        | 0, _ =>
          go_wp2
          go_roundw
          case rel => exact ⟨1, by omega, rfl, by first | rfl | trivial⟩
          case measure => simp [intOf]
        | 1, _ =>
          go_wp2
          go_ret
          exact ⟨rfl, rfl⟩
  · rw [if_neg h0]
    have h0' : (a == 0) = false := by simp [h0]
    have h0'' : (a != 0) = true := by simp [h0]
    clear h0
    go_enter Try.func45, Try.ntmps45
    go_wp2
    go_loopw [8] (fun i wr => i = .int .i64 0 ∧ wr = w) (fun _ _ => 0)
    case atStart => exact ⟨rfl, rfl⟩
    case round =>
      obtain ⟨rfl, hw⟩ := hrel
      subst hw
      go_wp2
      go_ret
      exact ⟨rfl, rfl⟩
theorem or2_eq (q : Nat) (a b v : Int) (w : World) (h : Blk w q 3 #[.int .i64 a, .int .i64 b]) (hv : (if a = 0 then b else a) = v) :
    Calls Try.prog 45 #[.slice (some ⟨q, 0, none⟩) 2 2] w fun e w' => e = .returned (.int .i64 v) ∧ w = w' := hv ▸ or2_any q a b w h
/-- How two sheets compare. -/
def cmpS (p a : WorkSheetR) : Int := if Lib.compareInt p.f1 a.f1 = 0 then Lib.compareInt p.f0 a.f0 else Lib.compareInt p.f1 a.f1
theorem cmpS_bef (p a : WorkSheetR) : 0 ≤ cmpS p a ↔ ¬ bef p a := by
  unfold cmpS bef
  rcases Int.lt_trichotomy p.f1 a.f1 with h | h | h
  · rw [compareInt_lt h]; simp [h]
  · rw [compareInt_eq h, if_pos rfl]
    rcases Int.lt_trichotomy p.f0 a.f0 with h2 | h2 | h2
    · rw [compareInt_lt h2]; simp [h, h2]
    · rw [compareInt_eq h2]; simp [h, h2]
    · rw [compareInt_gt h2]; simp [h]; omega
  · rw [compareInt_gt h]; simp; omega
theorem al_cell {w : World} {o : Obj} {b off : Nat} {v : Value} (h : w.cell? ⟨b, off, none⟩ = some v) (hb : b < w.heap.size) : ((w.alloc o).drew).cell? ⟨b, off, none⟩ = some v :=
  (World.cell?_alloc_lt w o ⟨b, off, none⟩ hb).trans h
set_option maxRecDepth 100000 in
set_option maxHeartbeats 4000000 in
theorem compareSheets_any (p a : WorkSheetR) (v : Int) (w : World) (hv : cmpS p a = v) : Calls Try.prog 28 #[.agg #[.int .i64 p.f0, .int .i64 p.f1, .int .i64 p.f2, .int .i64 p.f3, .int .i64 p.f4], .agg #[.int .i64 a.f0, .int .i64 a.f1, .int .i64 a.f2, .int .i64 a.f3, .int .i64 a.f4]] w (Out w (.int .i64 v)) := by
  obtain ⟨c1, hc1⟩ : ∃ k, Lib.compareInt p.f1 a.f1 = k := ⟨_, rfl⟩
  obtain ⟨c2, hc2⟩ : ∃ k, Lib.compareInt p.f0 a.f0 = k := ⟨_, rfl⟩
  have hr : (if c1 = 0 then c2 else c1) = v := by rw [← hv, ← hc1, ← hc2]; rfl
  have K1 := Lib.hid (fun w => cmp_eq p.f1 a.f1 c1 w hc1)
  have K2 := Lib.hid (fun w => cmp_eq p.f0 a.f0 c2 w hc2)
  have K3 := Lib.hid (fun w q (h : Blk w q 3 #[.int .i64 c1, .int .i64 c2]) => or2_eq q c1 c2 v w h hr)
  clear hv hc1 hc2 hr
  have bx := (Blk.new w #[.int .i64 p.f0, .int .i64 p.f1, .int .i64 p.f2, .int .i64 p.f3, .int .i64 p.f4] 33).alloc (.cells #[.int .i64 a.f0, .int .i64 a.f1, .int .i64 a.f2, .int .i64 a.f3, .int .i64 a.f4] 33)
  have byy := Blk.new (w.alloc (.cells #[.int .i64 p.f0, .int .i64 p.f1, .int .i64 p.f2, .int .i64 p.f3, .int .i64 p.f4] 33)) #[.int .i64 a.f0, .int .i64 a.f1, .int .i64 a.f2, .int .i64 a.f3, .int .i64 a.f4] 33
  rw [show (w.alloc (.cells #[.int .i64 p.f0, .int .i64 p.f1, .int .i64 p.f2, .int .i64 p.f3, .int .i64 p.f4] 33)).heap.size = w.heap.size + 1 by simp] at byy
  have HB := Lib.hid (show Below w.heap.size w ((w.alloc (.cells #[.int .i64 p.f0, .int .i64 p.f1, .int .i64 p.f2, .int .i64 p.f3, .int .i64 p.f4] 33)).alloc (.cells #[.int .i64 a.f0, .int .i64 a.f1, .int .i64 a.f2, .int .i64 a.f3, .int .i64 a.f4] 33)) by repeat (first | assumption | exact Below.refl _ _ | refine belowN ?_ _ | refine belowD ?_ | (refine Below.setCell ?_ (by first | (simp; done) | (simp; omega) | omega) _) | (refine Below.alloc ?_ (by first | (simp; done) | (simp; omega) | omega) _)))
  have hz2 := byy.lt
  go_enter Try.func28, Try.ntmps28
  go_wp2
  obtain ⟨w2, HW2⟩ : ∃ w2, Hid (w2 = ((w.alloc (.cells #[.int .i64 p.f0, .int .i64 p.f1, .int .i64 p.f2, .int .i64 p.f3, .int .i64 p.f4] 33)).alloc (.cells #[.int .i64 a.f0, .int .i64 a.f1, .int .i64 a.f2, .int .i64 a.f3, .int .i64 a.f4] 33))) := ⟨_, rfl⟩
  rw [← HW2.out] at bx byy hz2 HB ⊢
  obtain ⟨Q, hQ⟩ : ∃ Q, w.heap.size = Q := ⟨_, rfl⟩
  rw [hQ] at bx byy hz2 HB ⊢
  have u0 : w2.cell? ⟨Q, 0, none⟩ = some (.int .i64 p.f0) := bx.cell 0
  have u1 : w2.cell? ⟨Q, 1, none⟩ = some (.int .i64 p.f1) := bx.cell 1
  have v0 : w2.cell? ⟨Q + 1, 0, none⟩ = some (.int .i64 a.f0) := byy.cell 0
  have v1 : w2.cell? ⟨Q + 1, 1, none⟩ = some (.int .i64 a.f1) := byy.cell 1
  have hQz : Q < w2.heap.size := by omega
  have hlit : Blk ((w2.alloc (.cells #[.int .i64 c1, .int .i64 c2] 3)).drew) w2.heap.size 3 #[.int .i64 c1, .int .i64 c2] := Blk.new w2 _ _
  go_region_held3 (fun w' => w'.cell? ⟨Q, 0, none⟩ = some (.int .i64 p.f0) ∧ w'.cell? ⟨Q, 1, none⟩ = some (.int .i64 p.f1) ∧ w'.cell? ⟨Q + 1, 0, none⟩ = some (.int .i64 a.f0) ∧ w'.cell? ⟨Q + 1, 1, none⟩ = some (.int .i64 a.f1)) (first | exact ⟨u0, u1, v0, v1⟩ | exact ⟨al_cell u0 hQz, al_cell u1 hQz, al_cell v0 hz2, al_cell v1 hz2⟩ | go_keep) (first | (go_at_call 23; (with_reducible refine (K1.out _).mono ?_); rintro e w5 ⟨rfl, rfl⟩) | (go_at_call 23; (with_reducible refine (K2.out _).mono ?_); rintro e w5 ⟨rfl, rfl⟩) | (go_at_call 45; (with_reducible refine (K3.out _ _ hlit).mono ?_); rintro e w5 ⟨rfl, rfl⟩))
  all_goals
    have hbo := HB.out
    have hqs := hbo.size
    subst hQ
    go_wp2
    go_ret
    exact ⟨rfl, by repeat (first | assumption | exact Below.refl _ _ | refine belowN ?_ _ | refine belowD ?_ | (refine Below.setCell ?_ (by first | (simp; done) | (simp; omega) | omega) _) | (refine Below.alloc ?_ (by first | (simp; done) | (simp; omega) | omega) _))⟩
/-- The wage with its parts as letters. -/
theorem wage_letters {r : RatesR} {s : WorkSheetR} (hr : ratesB r = true) (hs : Knotty s) : ∃ q m d n g f : Int, Hid (s.f2 - s.f3 = q ∧ r.f0 * q = m ∧ Int.tdiv m 1000 = d ∧ r.f1 * s.f4 = n ∧ Int.tdiv s.f3 100 = g ∧ r.f4 * g = f) ∧ (0 ≤ q ∧ q ≤ 12000) ∧ (0 ≤ m ∧ m ≤ 120000000) ∧ (0 ≤ d ∧ d ≤ 120000) ∧ (0 ≤ n ∧ n ≤ 120000) ∧ (0 ≤ g ∧ g ≤ 120) ∧ (0 ≤ f ∧ f ≤ 1200000) ∧ (0 ≤ r.f2 ∧ r.f2 ≤ 10000) ∧ (0 ≤ r.f3 ∧ r.f3 ≤ 10000) ∧ Hid (wageI r s = mostI r.f2 (d + n + (if 8000 ≤ q then r.f3 else 0) - f)) := by
  obtain ⟨⟨m0, m1⟩, ⟨n0, n1⟩, ⟨b0, b1⟩, f0, f1⟩ := wage_parts hr hs
  obtain ⟨⟨k0, k1⟩, ⟨x0, x1⟩, _⟩ := hs
  have hl := (rates_of hr).2.2.1
  have d1 : Int.tdiv (r.f0 * (s.f2 - s.f3)) 1000 = r.f0 * (s.f2 - s.f3) / 1000 := Int.tdiv_eq_ediv_of_nonneg m0
  have d2 : Int.tdiv s.f3 100 = s.f3 / 100 := Int.tdiv_eq_ediv_of_nonneg x0
  have h3 := (rates_of hr).2.2.2.1
  refine ⟨_, _, _, _, _, _, Lib.hid ⟨rfl, rfl, d1, rfl, d2, rfl⟩, ⟨by omega, by omega⟩, ⟨m0, m1⟩, ⟨by omega, by omega⟩, ⟨n0, n1⟩, ⟨by omega, by omega⟩, ⟨f0, f1⟩, hl, h3, Lib.hid rfl⟩
noncomputable def wage14 (r : RatesR) (s : WorkSheetR) : Int × Bool := if ratesB r = true ∧ sheetB s = true then (wageI r s, true) else (0, false)
theorem wage14_no1 {r : RatesR} {s : WorkSheetR} (h : ¬ ratesB r = true) : wage14 r s = (0, false) := if_neg fun hh => h hh.1
theorem wage14_no2 {r : RatesR} {s : WorkSheetR} (h : ¬ sheetB s = true) : wage14 r s = (0, false) := if_neg fun hh => h hh.2
theorem wage14_yes {r : RatesR} {s : WorkSheetR} (h : ratesB r = true) (h2 : sheetB s = true) : wage14 r s = (wageI r s, true) := if_pos ⟨h, h2⟩
end Go.Proofs.Ytnpojmaipndpmaa
