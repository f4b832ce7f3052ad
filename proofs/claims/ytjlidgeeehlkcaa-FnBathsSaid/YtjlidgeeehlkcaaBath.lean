/- The walks over a bath: valid or not, both texts. No condition. -/
import Derived.Test.YtjlidgeeehlkcaaDyeGood
import Derived.Test.YtjlidgeeehlkcaaBathHelp
namespace Go.Proofs.Ytjlidgeeehlkcaa
open Go.RowKit

set_option maxRecDepth 100000 in
set_option maxHeartbeats 400000 in
theorem isGrams_any (x : Int) (w : World) : Calls Try.prog 28 #[.int .i64 x] w fun e w' => e = .returned (.bool (gramB x)) ∧ w = w' := by
  go_enter Try.func28, Try.ntmps28
  go_wp2_with (go_at_call 29; (with_reducible refine (isBetween_any _ _ _ _).mono ?_); rintro e w' ⟨rfl, rfl⟩)
  go_ret
  exact ⟨rfl, rfl⟩
set_option maxRecDepth 100000 in
set_option maxHeartbeats 400000 in
theorem l7Grams_any (x : Int) (w : World) : Calls Try.prog 32 #[.int .i64 x] w fun e w' => e = .returned (.bool (gramB x)) ∧ w = w' := by
  go_enter Try.func32, Try.ntmps32
  go_wp2_with (go_at_call 43; (with_reducible refine (l1In_any _ _ _ _).mono ?_); rintro e w' ⟨rfl, rfl⟩)
  go_ret
  exact ⟨rfl, rfl⟩
theorem get_at {xs : List Int} {k : Nat} {x : Int} (h : k < xs.length) (e : xs.getD k 0 = x) : xs[k]? = some x := by rw [List.getElem?_eq_getElem h, ← getD_at h, e]
set_option maxRecDepth 100000 in
set_option maxHeartbeats 4000000 in
theorem implIsBath_any (A : Option Addr) (n c B : Nat) (xs : List DyePartR) (L T Y : Int) (A' : Option Addr) (n' c' B' : Nat) (ys : List Int) (w : World) (h : RdF dyePartF w B A n c xs) (hB : B ≤ w.heap.size) (h' : Rd w B' A' n' c' ys) (hB' : B' ≤ w.heap.size) :
    Calls Try.prog 11 #[.slice A n c, bathV L T Y (.slice A' n' c')] w (Tells w (bathB xs L T Y ys)) := by
  have hn := h.len_lt
  have hn' := h'.len_lt
  obtain rfl := h.len
  have HL0 := Lib.hid h'.len
  have HB : Below w.heap.size w (w.alloc (.cells #[.int .i64 L, .int .i64 T, .int .i64 Y, .slice A' n' c'] 27)) := (Below.refl _ _).alloc (Nat.le_refl _) _
  have x3 := Blk.new w #[.int .i64 L, .int .i64 T, .int .i64 Y, .slice A' n' c'] 27
  cases hr : recB xs with
  | false =>
    have H := Lib.hid (show bathB xs L T Y ys = false by simp [bathB, hr])
    go_enter Try.func11, Try.ntmps11
    go_wp2_with fail
    refine (implIsRecipe_any A _ c B xs _ (h.alloc hB _) (by simp; omega)).mono ?_
    rintro e w1 ⟨rfl, hb⟩
    replace HB := HB.trans (hb.mono HB.size)
    rw [hr]
    clear hb
    go_wp2
    go_ret
    exact ⟨ret_bool H.out.symm, HB⟩
  | true =>
  by_cases hle : n' = xs.length
  rotate_left
  · have H := Lib.hid (show bathB xs L T Y ys = false by simp [bathB, HL0.out, hle])
    have hle' : ¬ (n' : Int) = (xs.length : Int) := by omega
    go_enter Try.func11, Try.ntmps11
    go_wp2_with fail
    refine (implIsRecipe_any A _ c B xs _ (h.alloc hB _) (by simp; omega)).mono ?_
    rintro e w1 ⟨rfl, hb⟩
    replace HB := HB.trans (hb.mono HB.size)
    replace x3 := x3.all hb
    have e3 := x3.cell 3
    rw [hr]
    clear hb
    go_wp2
    go_ret
    exact ⟨ret_bool H.out.symm, HB⟩
  subst hle
  have HL := HL0
  go_enter Try.func11, Try.ntmps11
  go_wp2_with fail
  refine (implIsRecipe_any A _ c B xs _ (h.alloc hB _) (by simp; omega)).mono ?_
  rintro e w1 ⟨rfl, hb⟩
  replace HB := HB.trans (hb.mono HB.size)
  replace x3 := x3.all hb
  have hR := (h'.alloc hB' _).all hb (by simp; omega)
  have hB1 : B' ≤ w1.heap.size := Nat.le_trans hB' HB.size
  have e3 := x3.cell 3
  rw [hr]
  clear hb
  go_wp2
  clear e3
  go_loopw [21, 4] (fun i r wr => ∃ k : Nat, k ≤ xs.length ∧ i = .int .i64 k ∧ r = .bool false ∧ GramsTo ys k ∧ wr = w1) (fun i _ _ => xs.length - (intOf i).toNat)
  case atStart => exact ⟨0, Nat.zero_le _, rfl, rfl, gramsTo_zero _, rfl⟩
  case round =>
    obtain ⟨k, hk, rfl, rfl, hct, rfl⟩ := hrel
    have HC := Lib.hid hct
    clear hct
    by_cases hlt : k < xs.length
    · obtain ⟨b, off, x, rfl, hbB, hc, _, _, HX⟩ := hR.at hlt
      have HX' := Lib.hid (get_at (xs := ys) (by rw [HL.out]; exact hlt) HX.out)
      have hki : (0 : Int) ≤ (k : Int) := by omega
      have hkn : (k : Int) < (xs.length : Int) := by omega
      cases hg : gramB x with
      | true =>
        have H := Lib.hid (gramsTo_step HC.out HX'.out hg)
        go_wp2_with ((go_at_call 28; (with_reducible refine (isGrams_any _ _).mono ?_); rintro e w' ⟨rfl, rfl⟩))
        go_roundw
        case rel => exact ⟨k + 1, by omega, by go_num, rfl, H.out, by first | rfl | trivial⟩
        case measure => simp [intOf]; omega
      | false =>
        have H := Lib.hid (show bathB xs L T Y ys = false by simp [bathB, gramsB_no HX'.out hg])
        go_wp2_with ((go_at_call 28; (with_reducible refine (isGrams_any _ _).mono ?_); rintro e w' ⟨rfl, rfl⟩))
        go_ret
        exact ⟨ret_bool H.out.symm, HB⟩
    · have hgr : gramsB ys = true := gramsB_yes (by rw [HL.out]; obtain rfl : k = xs.length := (by omega); exact HC.out)
      have e0 := x3.cell 0
      have e1 := x3.cell 1
      have e2 := x3.cell 2
      have H := Lib.hid (show bathB xs L T Y ys = (inB L 1 500 && inB T 0 100 && gramB Y) by simp only [bathB, hr, HL.out, hgr, decide_true, Bool.true_and])
      cases hL : inB L 1 500
      case true =>
        cases hT : inB T 0 100
        case true =>
          rw [hL, hT] at H
          go_wp2_with (first | (go_at_call 29; (with_reducible refine (isBetween_any _ _ _ _).mono ?_); rintro e w' ⟨rfl, rfl⟩) | (go_at_call 28; (with_reducible refine (isGrams_any _ _).mono ?_); rintro e w' ⟨rfl, rfl⟩))
          go_ret
          exact ⟨ret_bool (by rw [H.out]; simp), HB⟩
        case false =>
          rw [hL, hT] at H
          go_wp2_with (first | (go_at_call 29; (with_reducible refine (isBetween_any _ _ _ _).mono ?_); rintro e w' ⟨rfl, rfl⟩) | (go_at_call 28; (with_reducible refine (isGrams_any _ _).mono ?_); rintro e w' ⟨rfl, rfl⟩))
          go_ret
          exact ⟨ret_bool (by rw [H.out]; simp), HB⟩
      case false =>
        rw [hL] at H
        go_wp2_with (first | (go_at_call 29; (with_reducible refine (isBetween_any _ _ _ _).mono ?_); rintro e w' ⟨rfl, rfl⟩) | (go_at_call 28; (with_reducible refine (isGrams_any _ _).mono ?_); rintro e w' ⟨rfl, rfl⟩))
        go_ret
        exact ⟨ret_bool (by rw [H.out]; simp), HB⟩
set_option maxRecDepth 100000 in
set_option maxHeartbeats 4000000 in
theorem l7Bath_any (A : Option Addr) (n c B : Nat) (xs : List DyePartR) (L T Y : Int) (A' : Option Addr) (n' c' B' : Nat) (ys : List Int) (w : World) (h : RdF dyePartF w B A n c xs) (hB : B ≤ w.heap.size) (h' : Rd w B' A' n' c' ys) (hB' : B' ≤ w.heap.size) :
    Calls Try.prog 24 #[.slice A n c, bathV L T Y (.slice A' n' c')] w (Tells w (bathB xs L T Y ys)) := by
  have hn := h.len_lt
  have hn' := h'.len_lt
  obtain rfl := h.len
  have HL := Lib.hid h'.len
  have HB : Below w.heap.size w (w.alloc (.cells #[.int .i64 L, .int .i64 T, .int .i64 Y, .slice A' n' c'] 27)) := (Below.refl _ _).alloc (Nat.le_refl _) _
  have x3 := Blk.new w #[.int .i64 L, .int .i64 T, .int .i64 Y, .slice A' n' c'] 27
  have hR := h'.alloc hB' (.cells #[.int .i64 L, .int .i64 T, .int .i64 Y, .slice A' n' c'] 27)
  have hR1 := h.alloc hB (.cells #[.int .i64 L, .int .i64 T, .int .i64 Y, .slice A' n' c'] 27)
  have e0 := x3.cell 0
  have e1 := x3.cell 1
  have e2 := x3.cell 2
  have e3 := x3.cell 3
  go_enter Try.func24, Try.ntmps24
  go_wp2
  generalize w.alloc (.cells #[.int .i64 L, .int .i64 T, .int .i64 Y, .slice A' n' c'] 27) = w1 at *
  go_loopw [5, 4] (fun i r wr => ∃ k : Nat, k ≤ n' ∧ i = .int .i64 k ∧ r = .bool false ∧ GramsTo ys k ∧ wr = w1) (fun i _ _ => n' - (intOf i).toNat)
  case atStart => exact ⟨0, Nat.zero_le _, rfl, rfl, gramsTo_zero _, rfl⟩
  case round =>
    obtain ⟨k, hk, rfl, rfl, hct, rfl⟩ := hrel
    have HC := Lib.hid hct
    clear hct
    by_cases hlt : k < n'
    · obtain ⟨b, off, x, rfl, hbB, hc, _, _, HX⟩ := hR.at hlt
      have HX' := Lib.hid (get_at (xs := ys) (by rw [HL.out]; exact hlt) HX.out)
      have hki : (0 : Int) ≤ (k : Int) := by omega
      have hkn : (k : Int) < (n' : Int) := by omega
      cases hg : gramB x with
      | true =>
        have H := Lib.hid (gramsTo_step HC.out HX'.out hg)
        go_wp2_with ((go_at_call 32; (with_reducible refine (l7Grams_any _ _).mono ?_); rintro e w' ⟨rfl, rfl⟩))
        go_roundw
        case rel => exact ⟨k + 1, by omega, by go_num, rfl, H.out, by first | rfl | trivial⟩
        case measure => simp [intOf]; omega
      | false =>
        have H := Lib.hid (show bathB xs L T Y ys = false by simp [bathB, gramsB_no HX'.out hg])
        go_wp2_with ((go_at_call 32; (with_reducible refine (l7Grams_any _ _).mono ?_); rintro e w' ⟨rfl, rfl⟩))
        go_ret
        exact ⟨ret_bool H.out.symm, HB⟩
    · have hgr : gramsB ys = true := gramsB_yes (by rw [HL.out]; obtain rfl : k = n' := (by omega); exact HC.out)
      have hsz := HB.size
      have H := Lib.hid (show bathB xs L T Y ys = (recB xs && decide (n' = xs.length) && inB L 1 500 && inB T 0 100 && gramB Y) by simp only [bathB, HL.out, hgr, Bool.and_true])
      clear hgr
      go_wp2_with fail
      refine (l7Good_any A _ c B xs _ hR1 (by omega)).mono ?_
      rintro e w2 ⟨rfl, hb⟩
      clear e0 e1 e2 e3
      replace x3 := x3.all hb
      have e0 := x3.cell 0
      have e1 := x3.cell 1
      have e2 := x3.cell 2
      have e3 := x3.cell 3
      replace HB := HB.trans (hb.mono hsz)
      clear hb
      cases hr : recB xs
      case false =>
        rw [hr] at H
        go_wp2
        go_ret
        exact ⟨ret_bool (by rw [H.out]; simp), HB⟩
      rw [hr] at H
      cases hL : inB L 1 500
      case false =>
        rw [hL] at H
        go_wp2_with (first | (go_at_call 43; (with_reducible refine (l1In_any _ _ _ _).mono ?_); rintro e w' ⟨rfl, rfl⟩) | (go_at_call 32; (with_reducible refine (l7Grams_any _ _).mono ?_); rintro e w' ⟨rfl, rfl⟩))
        go_ret
        exact ⟨ret_bool (by rw [H.out]; simp), HB⟩
      rw [hL] at H
      cases hT : inB T 0 100
      case false =>
        rw [hT] at H
        go_wp2_with (first | (go_at_call 43; (with_reducible refine (l1In_any _ _ _ _).mono ?_); rintro e w' ⟨rfl, rfl⟩) | (go_at_call 32; (with_reducible refine (l7Grams_any _ _).mono ?_); rintro e w' ⟨rfl, rfl⟩))
        go_ret
        exact ⟨ret_bool (by rw [H.out]; simp), HB⟩
      rw [hT] at H
      cases hY : gramB Y
      case false =>
        rw [hY] at H
        go_wp2_with (first | (go_at_call 43; (with_reducible refine (l1In_any _ _ _ _).mono ?_); rintro e w' ⟨rfl, rfl⟩) | (go_at_call 32; (with_reducible refine (l7Grams_any _ _).mono ?_); rintro e w' ⟨rfl, rfl⟩))
        go_ret
        exact ⟨ret_bool (by rw [H.out]; simp), HB⟩
      rw [hY] at H
      by_cases hle : (n' : Int) = (xs.length : Int)
      · have H2 := Lib.hid (show decide (n' = xs.length) = true from decide_eq_true (by omega))
        go_wp2_with (first | (go_at_call 43; (with_reducible refine (l1In_any _ _ _ _).mono ?_); rintro e w' ⟨rfl, rfl⟩) | (go_at_call 32; (with_reducible refine (l7Grams_any _ _).mono ?_); rintro e w' ⟨rfl, rfl⟩))
        go_ret
        exact ⟨ret_bool (by rw [H.out, H2.out]; first | (simp; done) | (simp; omega)), HB⟩
      · have H2 := Lib.hid (show decide (n' = xs.length) = false from decide_eq_false (by omega))
        go_wp2_with (first | (go_at_call 43; (with_reducible refine (l1In_any _ _ _ _).mono ?_); rintro e w' ⟨rfl, rfl⟩) | (go_at_call 32; (with_reducible refine (l7Grams_any _ _).mono ?_); rintro e w' ⟨rfl, rfl⟩))
        go_ret
        exact ⟨ret_bool (by rw [H.out, H2.out]; first | (simp; done) | (simp; omega)), HB⟩
end Go.Proofs.Ytjlidgeeehlkcaa
