/- MissedBonus: the walks, both texts. No condition. -/
import Derived.Test.YtnpojmaipndpmaaSheets
import Derived.Test.YtnpojmaipndpmaaSheetsS
import Derived.Test.YtnpojmaipndpmaaRestI
import Derived.OwnWalk
namespace Go.Proofs.Ytnpojmaipndpmaa
open Go.RowKit

def missP (a : WorkSheetR) : Bool := decide (8000 ≤ a.f2) && decide (a.f2 - a.f3 < 8000)
/-- The places, from k on, of those that miss the bonus. -/
def missFrom : List WorkSheetR → Nat → List Int
  | [], _ => []
  | a :: r, k => (if missP a = true then [(k : Int)] else []) ++ missFrom r (k + 1)
theorem missFrom_drop {xs : List WorkSheetR} {k : Nat} {a : WorkSheetR} (ha : xs[k]? = some a) : missFrom (xs.drop k) k = (if missP a = true then [(k : Int)] else []) ++ missFrom (xs.drop (k + 1)) (k + 1) := by
  obtain ⟨hlt, e⟩ := List.getElem?_eq_some_iff.1 ha
  rw [List.drop_eq_getElem_cons hlt, e]
  rfl
theorem missFrom_len : ∀ (xs : List WorkSheetR) (k : Nat), (missFrom xs k).length ≤ xs.length := by
  intro xs
  induction xs with
  | nil => intro k; simp [missFrom]
  | cons a xs ih =>
    intro k
    have := ih (k + 1)
    rw [missFrom, List.length_append, List.length_cons]
    split <;> simp <;> omega
noncomputable def missed14 (xs : List WorkSheetR) : List Int × Bool := if sheetsB xs = true then (missFrom xs 0, true) else ([], false)
theorem missed14_len (xs : List WorkSheetR) : (missed14 xs).1.length ≤ 100000 := by
  unfold missed14
  split
  · next h =>
    have h1 := missFrom_len xs 0
    have h2 := (sheetsB_of h).1
    simp only
    omega
  · simp
set_option maxRecDepth 100000 in
set_option maxHeartbeats 4000000 in
theorem implMissedBonus_any (A : Option Addr) (n c B : Nat) (xs : List WorkSheetR) (w : World) (h : RdF workSheetF w B A n c xs) (hB : B ≤ w.heap.size) :
    Calls Try.prog 15 #[.slice A n c] w (OutInts w (missed14 xs).1 (missed14 xs).2) := by
  obtain rfl := h.len
  by_cases hg : sheetsB xs = true
  rotate_left
  · have hg' := not_false hg
    have HU := Lib.hid (show missed14 xs = ([], false) from if_neg hg)
    go_enter Try.func15, Try.ntmps15
    go_wp2_with fail
    refine (implAreSheets_eq A _ c B xs _ _ h hB hg').mono ?_
    rintro e w1 ⟨rfl, hb⟩
    go_wp2
    go_ret2
    rw [HU.out]
    exact ⟨none, 0, rfl, Own.nil _ _, hb⟩
  have HU := Lib.hid (show missed14 xs = (missFrom xs 0, true) from if_pos hg)
  have h12 := (sheetsB_of hg).1
  have HA := Lib.hid (sheets_all hg)
  go_enter Try.func15, Try.ntmps15
  go_wp2_with fail
  refine (implAreSheets_eq A _ c B xs _ _ h hB hg).mono ?_
  rintro e w1 ⟨rfl, hb⟩
  go_wp2
  go_loopw [12, 4] (fun i v wr => ∃ (k m : Nat) (ys : List Int) (A' : Option Addr) (c' : Nat), k ≤ xs.length ∧ i = .int .i64 k ∧ v = .slice A' m c' ∧ Hid (ys.length = m) ∧ m ≤ k ∧ Own wr w.heap.size (.slice A' m c') ys ∧ Hid (ys ++ missFrom (xs.drop k) k = missFrom xs 0) ∧ Below w.heap.size w wr) (fun i _ _ => xs.length - (intOf i).toNat)
  case atStart => exact ⟨0, 0, [], none, 0, Nat.zero_le _, rfl, rfl, Lib.hid rfl, Nat.le_refl _, Own.nil _ _, Lib.hid (by simp), hb⟩
  case round =>
    obtain ⟨k, m, ys, A', c', hk, rfl, rfl, HL, hmk, own, HY, hb⟩ := hrel
    have hzz := hb.size
    by_cases hlt : k < xs.length
    · obtain ⟨b, off, a, rfl, hbB, ok, HX, hc0, hc1, hc2, hc3, hc4⟩ := WorkSheetR_at (F := workSheetF) rfl (fun _ => rfl) (fun _ => rfl) (h.all hb hB) hlt
      have HD := Lib.hid (missFrom_drop HX.out)
      obtain ⟨_, _, ⟨k0, k1⟩, ⟨x0, x1⟩, _⟩ := sheet_of (allS_at HA.out HX.out)
      have gs : IntKind.i64.wrap (a.f2 - a.f3) = a.f2 - a.f3 := IntWalk.i64_in _ (by omega)
      have hI : I64 (k : Int) := ⟨by omega, by omega⟩
      have HKN := Lib.hid (sheet_knotty (allS_at HA.out HX.out))
      have x7 := Blk.new wr #[.int .i64 a.f0, .int .i64 a.f1, .int .i64 a.f2, .int .i64 a.f3, .int .i64 a.f4] 33
      have own7 := own.alloc (.cells #[.int .i64 a.f0, .int .i64 a.f1, .int .i64 a.f2, .int .i64 a.f3, .int .i64 a.f4] 33)
      have HB := hb.alloc hzz (.cells #[.int .i64 a.f0, .int .i64 a.f1, .int .i64 a.f2, .int .i64 a.f3, .int .i64 a.f4] 33)
      have hz7 : w.heap.size ≤ (wr.alloc (.cells #[.int .i64 a.f0, .int .i64 a.f1, .int .i64 a.f2, .int .i64 a.f3, .int .i64 a.f4] 33)).heap.size := HB.size
      clear hb own
      by_cases h8 : 8000 ≤ a.f2
      rotate_left
      · have HN := Lib.hid (show ys ++ missFrom (xs.drop (k + 1)) (k + 1) = missFrom xs 0 by rw [← HY.out, HD.out, if_neg (show ¬ missP a = true by simp [missP]; omega)]; rfl)
        go_wp2
        go_roundw
        case rel => exact ⟨k + 1, m, ys, A', c', by omega, by go_num, rfl, HL, by omega, own7, HN, HB⟩
        case measure => simp [intOf]; omega
      obtain ⟨q, hq⟩ : ∃ q, a.f2 - a.f3 = q := ⟨_, rfl⟩
      have HC := Lib.hid (fun w => right_eq a q w HKN.out hq)
      have HQ := Lib.hid hq
      clear hq gs
      go_upto_region 7 with fail
      clear hc0 hc1 hc2 hc3 hc4
      generalize wr.alloc (.cells #[.int .i64 a.f0, .int .i64 a.f1, .int .i64 a.f2, .int .i64 a.f3, .int .i64 a.f4] 33) = W7 at *
      generalize wr.heap.size = P at *
      have e70 := x7.cell 0
      have e71 := x7.cell 1
      have e72 := x7.cell 2
      have e73 := x7.cell 3
      have e74 := x7.cell 4
      have hzP := x7.lt
      go_wp2_with fail
      refine (HC.out _).mono ?_
      rintro e w8 ⟨rfl, hb8⟩
      replace own7 := own7.all hb8
      replace HB := HB.trans (hb8.mono hz7)
      have hz8 := HB.size
      clear hb8
      by_cases hq8 : q < 8000
      · have HN := Lib.hid (show (ys ++ [(k : Int)]) ++ missFrom (xs.drop (k + 1)) (k + 1) = missFrom xs 0 by rw [← HY.out, HD.out, if_pos (show missP a = true by have := HQ.out; simp [missP]; omega), List.append_assoc])
        go_wp2_with (at_builtin; refine wpList_append_one w8 rfl (.tmp 25) (.tmp 27) 26 rfl Try.underlying26 info_int w.heap.size _ ys (k : Int) rfl rfl own7 (by rw [HL.out]; omega) hI hz8 ?_)
        intro A2 c2 w9 own9 hg9
        have HB9 := HB.grown hg9 hz8 (fun j hj => (own7.bd j hj).1)
        clear hg9
        go_wp2
        go_roundw
        case rel => exact ⟨k + 1, ys.length + 1, ys ++ [(k : Int)], A2, c2, by omega, by go_num, rfl, Lib.hid (by simp), by have := HL.out; omega, own9, HN, HB9⟩
        case measure => simp [intOf]; omega
      · have HN := Lib.hid (show ys ++ missFrom (xs.drop (k + 1)) (k + 1) = missFrom xs 0 by rw [← HY.out, HD.out, if_neg (show ¬ missP a = true by have := HQ.out; simp [missP]; omega)]; rfl)
        go_wp2
        go_roundw
        case rel => exact ⟨k + 1, m, ys, A', c', by omega, by go_num, rfl, HL, by omega, own7, HN, HB⟩
        case measure => simp [intOf]; omega
    · obtain rfl : k = xs.length := by omega
      have HE := Lib.hid (show ys = missFrom xs 0 by have := HY.out; rwa [List.drop_length, show missFrom [] xs.length = [] from rfl, List.append_nil] at this)
      go_wp2
      go_ret2
      rw [HU.out]
      have hl : (missFrom xs 0).length = m := by rw [← HE.out]; exact HL.out
      exact ⟨A', c', by show _ = Ending.returned (.tuple #[.slice A' (missFrom xs 0).length c', .bool true]); rw [hl]; rfl, by show Own _ _ (.slice A' (missFrom xs 0).length c') (missFrom xs 0); rw [hl, ← HE.out]; exact own, hb⟩
set_option maxRecDepth 100000 in
set_option maxHeartbeats 4000000 in
theorem specMissedBonus_any (A : Option Addr) (n c B : Nat) (xs : List WorkSheetR) (w : World) (h : RdF workSheetF w B A n c xs) (hB : B ≤ w.heap.size) :
    Calls Try.prog 16 #[.slice A n c] w (OutInts w (missed14 xs).1 (missed14 xs).2) := by
  obtain rfl := h.len
  have o0 : Own (w.alloc (.cells #[] 3)) w.heap.size (.slice (some ⟨w.heap.size, 0, none⟩) 0 0) [] := Own.empty (Nat.le_refl _)
  have HB0 : Below w.heap.size w (w.alloc (.cells #[] 3)) := (Below.refl _ _).alloc (Nat.le_refl _) _
  have hR := h.alloc hB (.cells #[] 3)
  have hBW : B ≤ (w.alloc (.cells #[] 3)).heap.size := by simp; omega
  by_cases hg : sheetsB xs = true
  rotate_left
  · have hg' := not_false hg
    have HU := Lib.hid (show missed14 xs = ([], false) from if_neg hg)
    go_enter Try.func16, Try.ntmps16
    go_wp2_with fail
    refine (l14Good_eq A _ c B xs _ _ hR hBW hg').mono ?_
    rintro e w1 ⟨rfl, hb⟩
    go_wp2
    go_ret2
    rw [HU.out]
    exact ⟨_, _, rfl, o0.all hb, HB0.trans (hb.mono HB0.size)⟩
  have HU := Lib.hid (show missed14 xs = (missFrom xs 0, true) from if_pos hg)
  have h12 := (sheetsB_of hg).1
  have HA := Lib.hid (sheets_all hg)
  go_enter Try.func16, Try.ntmps16
  go_wp2_with fail
  refine (l14Good_eq A _ c B xs _ _ hR hBW hg).mono ?_
  rintro e w1 ⟨rfl, hb⟩
  replace o0 := o0.all hb
  replace HB0 := HB0.trans (hb.mono HB0.size)
  clear hb
  go_wp2
  go_loopw [5, 4] (fun i v wr => ∃ (k m : Nat) (ys : List Int) (A' : Option Addr) (c' : Nat), k ≤ xs.length ∧ i = .int .i64 k ∧ v = .slice A' m c' ∧ Hid (ys.length = m) ∧ m ≤ k ∧ Own wr w.heap.size (.slice A' m c') ys ∧ Hid (ys ++ missFrom (xs.drop k) k = missFrom xs 0) ∧ Below w.heap.size w wr) (fun i _ _ => xs.length - (intOf i).toNat)
  case atStart => exact ⟨0, 0, [], _, 0, Nat.zero_le _, rfl, rfl, Lib.hid rfl, Nat.le_refl _, o0, Lib.hid (by simp), HB0⟩
  case round =>
    obtain ⟨k, m, ys, A', c', hk, rfl, rfl, HL, hmk, own, HY, hb⟩ := hrel
    have hzz := hb.size
    have hki : (0 : Int) ≤ (k : Int) := by omega
    by_cases hlt : k < xs.length
    · obtain ⟨b, off, a, rfl, hbB, ok, HX, hc0, hc1, hc2, hc3, hc4⟩ := WorkSheetR_at (F := workSheetF) rfl (fun _ => rfl) (fun _ => rfl) (h.all hb hB) hlt
      have HD := Lib.hid (missFrom_drop HX.out)
      have hkn : (k : Int) < (xs.length : Int) := by omega
      obtain ⟨_, _, ⟨k0, k1⟩, ⟨x0, x1⟩, _⟩ := sheet_of (allS_at HA.out HX.out)
      have gs : IntKind.i64.wrap (a.f2 - a.f3) = a.f2 - a.f3 := IntWalk.i64_in _ (by omega)
      have hI : I64 (k : Int) := ⟨by omega, by omega⟩
      by_cases h8 : 8000 ≤ a.f2
      rotate_left
      · have HN := Lib.hid (show ys ++ missFrom (xs.drop (k + 1)) (k + 1) = missFrom xs 0 by rw [← HY.out, HD.out, if_neg (show ¬ missP a = true by simp [missP]; omega)]; rfl)
        have hd : decide (8000 ≤ a.f2) = false := decide_eq_false h8
        go_wp2
        go_quiet (fail)
        go_wp2
        go_roundw
        case rel => exact ⟨k + 1, m, ys, A', c', by omega, by go_num, rfl, HL, by omega, own.drewN _, HN, belowN hb _⟩
        case measure => simp [intOf]; omega
      have hd : decide (8000 ≤ a.f2) = true := decide_eq_true h8
      obtain ⟨q, hq⟩ : ∃ q, a.f2 - a.f3 = q := ⟨_, rfl⟩
      have HQ := Lib.hid hq
      rw [hq] at gs
      by_cases hq8 : q < 8000
      · have HN := Lib.hid (show (ys ++ [(k : Int)]) ++ missFrom (xs.drop (k + 1)) (k + 1) = missFrom xs 0 by rw [← HY.out, HD.out, if_pos (show missP a = true by have := HQ.out; simp [missP]; omega), List.append_assoc])
        have hd2 : decide (q < 8000) = true := decide_eq_true hq8
        go_wp2
        go_quiet (fail)
        have own7 : Own (wr.drewN nq) w.heap.size (.slice A' m c') ys := own.drewN nq
        have HB : Below w.heap.size w (wr.drewN nq) := belowN hb nq
        clear own hb hc0 hc1 hc2 hc3 hc4
        generalize wr.drewN nq = wq at *
        have hz8 := HB.size
        go_wp2_with (at_builtin; refine wpList_append_one wq rfl (.tmp 37) (.tmp 39) 26 rfl Try.underlying26 info_int w.heap.size _ ys (k : Int) rfl rfl own7 (by rw [HL.out]; omega) hI hz8 ?_)
        intro A2 c2 w9 own9 hg9
        have HB9 := HB.grown hg9 hz8 (fun j hj => (own7.bd j hj).1)
        clear hg9
        go_wp2
        go_roundw
        case rel => exact ⟨k + 1, ys.length + 1, ys ++ [(k : Int)], A2, c2, by omega, by go_num, rfl, Lib.hid (by simp), by have := HL.out; omega, own9, HN, HB9⟩
        case measure => simp [intOf]; omega
      · have HN := Lib.hid (show ys ++ missFrom (xs.drop (k + 1)) (k + 1) = missFrom xs 0 by rw [← HY.out, HD.out, if_neg (show ¬ missP a = true by have := HQ.out; simp [missP]; omega)]; rfl)
        have hd2 : decide (q < 8000) = false := decide_eq_false hq8
        go_wp2
        go_quiet (fail)
        go_wp2
        go_roundw
        case rel => exact ⟨k + 1, m, ys, A', c', by omega, by go_num, rfl, HL, by omega, own.drewN _, HN, belowN hb _⟩
        case measure => simp [intOf]; omega
    · obtain rfl : k = xs.length := by omega
      have HE := Lib.hid (show ys = missFrom xs 0 by have := HY.out; rwa [List.drop_length, show missFrom [] xs.length = [] from rfl, List.append_nil] at this)
      go_wp2
      go_ret2
      rw [HU.out]
      have hl : (missFrom xs 0).length = m := by rw [← HE.out]; exact HL.out
      exact ⟨A', c', by show _ = Ending.returned (.tuple #[.slice A' (missFrom xs 0).length c', .bool true]); rw [hl]; rfl, by show Own _ _ (.slice A' (missFrom xs 0).length c') (missFrom xs 0); rw [hl, ← HE.out]; exact own, hb⟩
end Go.Proofs.Ytnpojmaipndpmaa
