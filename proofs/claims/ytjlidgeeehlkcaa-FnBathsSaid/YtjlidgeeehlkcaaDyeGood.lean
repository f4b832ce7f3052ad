/- The walks over a recipe: valid or not, both texts. No condition. -/
import Derived.Test.YtjlidgeeehlkcaaDyeMath
import Derived.BigQuiet
namespace Go.Proofs.Ytjlidgeeehlkcaa
open Go.RowKit

set_option maxRecDepth 100000 in
set_option maxHeartbeats 400000 in
theorem lessString_any (a b : ByteArray) (w : World) : Calls Try.prog 45 #[.string a, .string b] w fun e w' => e = .returned (.bool (Op.bytesLess a.toList b.toList)) ∧ w = w' := by
  go_enter Try.func45, Try.ntmps45
  go_wp2
  go_ret
  exact ⟨rfl, rfl⟩
set_option maxRecDepth 100000 in
set_option maxHeartbeats 4000000 in
theorem implIsRecipe_any (A : Option Addr) (n c B : Nat) (xs : List DyePartR) (w : World) (h : RdF dyePartF w B A n c xs) (hB : B ≤ w.heap.size) :
    Calls Try.prog 27 #[.slice A n c] w (Tells w (recB xs)) := by
  have hn := h.len_lt
  have hcap := h.cap
  obtain rfl := h.len
  by_cases hl : inB (xs.length : Int) 1 6 = true
  rotate_left
  · have hl' := not_false hl
    have H := Lib.hid (recB_no (xs := xs) fun hh => hl (decide_eq_true (by have := hh.1; omega)))
    go_enter Try.func27, Try.ntmps27
    go_wp2_with (go_at_call 29; (with_reducible refine (isBetween_any _ _ _ _).mono ?_); rintro e w' ⟨rfl, rfl⟩)
    go_ret
    exact ⟨ret_bool H.out.symm, Below.refl _ _⟩
  have hl6 := inB_yes hl
  go_enter Try.func27, Try.ntmps27
  go_wp2_with (go_at_call 29; (with_reducible refine (isBetween_any _ _ _ _).mono ?_); rintro e w' ⟨rfl, rfl⟩)
  clear hl
  go_loopw [11, 2] (fun i r wr => ∃ k : Nat, k ≤ xs.length ∧ i = .int .i64 k ∧ r = .bool false ∧ RecTo xs k ∧ Below w.heap.size w wr) (fun i _ _ => xs.length - (intOf i).toNat)
  case atStart => exact ⟨0, Nat.zero_le _, rfl, rfl, recTo_zero _, Below.refl _ _⟩
  case round =>
    obtain ⟨k, hk, rfl, rfl, hct, hb⟩ := hrel
    have HC := Lib.hid hct
    have hzz := hb.size
    clear hct
    by_cases hlt : k < xs.length
    · have hR0 := (h.all hb hB)
      obtain ⟨b, off, a, rfl, hbB, ha, HX, hc0, hc1⟩ := DyePartR_at (F := dyePartF) rfl (fun _ => rfl) (fun _ => rfl) hR0 hlt
      have x4 := Blk.new wr #[.string a.f0, .int .i64 a.f1] 43
      have HB := Lib.hid (hb.alloc hzz (.cells #[.string a.f0, .int .i64 a.f1] 43))
      have hR := hR0.alloc (by omega) (.cells #[.string a.f0, .int .i64 a.f1] 43)
      have hbz : b < (wr.alloc (.cells #[.string a.f0, .int .i64 a.f1] 43)).heap.size := by simp; omega
      have hki : (0 : Int) ≤ (k : Int) := by omega
      obtain ⟨ha0, ha1⟩ := ha
      clear hb
      go_wp2_with fail
      clear hc0 hc1
      generalize wr.alloc (.cells #[.string a.f0, .int .i64 a.f1] 43) = W4 at *
      generalize wr.heap.size = P at *
      have e0 := x4.cell 0
      have e1 := x4.cell 1
      by_cases hw : wordB a.f0 = true
      rotate_left
      · have hw' := not_false hw
        have H := Lib.hid (rec_bad1 HX.out (by unfold partB; rw [hw']; rfl))
        go_wp2_with (first | (go_at_call 44; (with_reducible refine (isWord_any _ _ ha0).mono ?_); rintro e w' ⟨rfl, rfl⟩) | (go_at_call 29; (with_reducible refine (isBetween_any _ _ _ _).mono ?_); rintro e w' ⟨rfl, rfl⟩))
        go_ret
        exact ⟨ret_bool H.out.symm, HB.out⟩
      by_cases hm : inB a.f1 1 1000 = true
      rotate_left
      · have hm' := not_false hm
        have H := Lib.hid (rec_bad1 HX.out (by unfold partB; rw [hm', Bool.and_false]))
        go_wp2_with (first | (go_at_call 44; (with_reducible refine (isWord_any _ _ ha0).mono ?_); rintro e w' ⟨rfl, rfl⟩) | (go_at_call 29; (with_reducible refine (isBetween_any _ _ _ _).mono ?_); rintro e w' ⟨rfl, rfl⟩))
        go_ret
        exact ⟨ret_bool H.out.symm, HB.out⟩
      have hs : partB a = true := by unfold partB; rw [hw, hm]; rfl
      go_wp2_with (first | (go_at_call 44; (with_reducible refine (isWord_any _ _ ha0).mono ?_); rintro e w' ⟨rfl, rfl⟩) | (go_at_call 29; (with_reducible refine (isBetween_any _ _ _ _).mono ?_); rintro e w' ⟨rfl, rfl⟩))
      clear hw hm
      by_cases hkp : 0 < k
      rotate_left
      · have H := Lib.hid (recTo_step HC.out HX.out hs (fun m p hm _ => by omega))
        have hk0 : ¬ (0 : Int) < (k : Int) := by omega
        have hk0' : decide ((0 : Int) < (k : Int)) = false := by rw [decide_eq_false_iff_not]; omega
        have hk0'' : decide (0 < k) = false := by rw [decide_eq_false_iff_not]; omega
        go_quiet (fail)
        go_wp2
        go_roundw
        case rel => exact ⟨k + 1, by omega, by go_num, rfl, H.out, belowN HB.out _⟩
        case measure => simp [intOf]; omega
      obtain ⟨m, HM⟩ : ∃ m, Hid (m + 1 = k) := ⟨k - 1, show k - 1 + 1 = k by omega⟩
      obtain ⟨_, _, p, he, _, hp, HP, hu0, _⟩ := DyePartR_at (F := dyePartF) rfl (fun _ => rfl) (fun _ => rfl) hR (show m < xs.length by have := HM.out; omega)
      cases he
      have hm0 : (0 : Int) ≤ (m : Int) := by omega
      have hm1 : (m : Int) < (xs.length : Int) := by have := HM.out; omega
      have hkj : (0 : Int) < (k : Int) := by omega
      have hkj' : decide ((0 : Int) < (k : Int)) = true := by rw [decide_eq_true_iff]; omega
      have ew : IntKind.i64.wrap ((k : Int) - 1) = (m : Int) := by have := HM.out; rw [IntWalk.i64_in _ (by omega)]; omega
      cases hid : Op.bytesLess p.f0.toList a.f0.toList with
      | true =>
        have H := Lib.hid (recTo_step HC.out HX.out hs (fun m' p' hm' hp' => by
          have := HM.out
          obtain rfl : m' = m := by omega
          rw [HP.out] at hp'
          cases hp'
          exact hid))
        go_quiet ((go_at_call 45; exact quiet_same (lessString_any _ _ _)))
        clear ew
        go_wp2
        go_roundw
        case rel => exact ⟨k + 1, by omega, by go_num, rfl, H.out, belowN HB.out _⟩
        case measure => simp [intOf]; omega
      | false =>
        have H := Lib.hid (rec_bad2 HX.out HP.out HM.out hid)
        go_quiet ((go_at_call 45; exact quiet_same (lessString_any _ _ _)))
        go_wp2
        go_ret
        exact ⟨ret_bool H.out.symm, belowN HB.out _⟩
    · have H := Lib.hid (recB_yes (xs := xs) ⟨by omega, by obtain rfl : k = xs.length := (by omega); exact HC.out⟩)
      go_wp2
      go_ret
      exact ⟨ret_bool H.out.symm, hb⟩
set_option maxRecDepth 100000 in
set_option maxHeartbeats 4000000 in
theorem l7Good_any (A : Option Addr) (n c B : Nat) (xs : List DyePartR) (w : World) (h : RdF dyePartF w B A n c xs) (hB : B ≤ w.heap.size) :
    Calls Try.prog 31 #[.slice A n c] w (Tells w (recB xs)) := by
  have hn := h.len_lt
  have hcap := h.cap
  obtain rfl := h.len
  go_enter Try.func31, Try.ntmps31
  go_wp2
  go_loopw [3, 2] (fun i r wr => ∃ (k : Nat), k ≤ xs.length ∧ i = .int .i64 k ∧ r = .bool false ∧ RecTo xs k ∧ Below w.heap.size w wr) (fun i _ _ => xs.length - (intOf i).toNat)
  case atStart => exact ⟨0, Nat.zero_le _, rfl, rfl, recTo_zero _, Below.refl _ _⟩
  case round =>
    obtain ⟨k, hk, rfl, rfl, hct, hb⟩ := hrel
    have HC := Lib.hid hct
    clear hct
    by_cases hlt : k < xs.length
    · have hR := h.all hb hB
      obtain ⟨b, off, a, rfl, hbB, ha, HX, hc0, hc1⟩ := DyePartR_at (F := dyePartF) rfl (fun _ => rfl) (fun _ => rfl) hR hlt
      have hki : (0 : Int) ≤ (k : Int) := by omega
      have hkn : (k : Int) < (xs.length : Int) := by omega
      obtain ⟨ha0, ha1⟩ := ha
      go_wp2_with fail
      cases hw : wordB a.f0 with
      | false =>
        have H := Lib.hid (rec_bad1 HX.out (by unfold partB; rw [hw]; rfl))
        go_quiet ((first | (go_at_call 46; exact quiet_same (l2Word_any _ _ ha0)) | (go_at_call 43; exact quiet_same (l1In_any _ _ _ _))))
        go_wp2
        go_ret
        exact ⟨ret_bool H.out.symm, belowN hb _⟩
      | true =>
      cases hm : inB a.f1 1 1000 with
      | false =>
        have H := Lib.hid (rec_bad1 HX.out (by unfold partB; rw [hm, Bool.and_false]))
        go_quiet ((first | (go_at_call 46; exact quiet_same (l2Word_any _ _ ha0)) | (go_at_call 43; exact quiet_same (l1In_any _ _ _ _))))
        go_wp2
        go_ret
        exact ⟨ret_bool H.out.symm, belowN hb _⟩
      | true =>
      have hs : partB a = true := by unfold partB; rw [hw, hm]; rfl
      by_cases hkp : 0 < k
      rotate_left
      · have H := Lib.hid (recTo_step HC.out HX.out hs (fun m p hm _ => by omega))
        have hk0 : ¬ (0 : Int) < (k : Int) := by omega
        have hk0' : decide ((0 : Int) < (k : Int)) = false := by rw [decide_eq_false_iff_not]; omega
        have hk0'' : decide (0 < k) = false := by rw [decide_eq_false_iff_not]; omega
        go_quiet ((first | (go_at_call 46; exact quiet_same (l2Word_any _ _ ha0)) | (go_at_call 43; exact quiet_same (l1In_any _ _ _ _))))
        go_wp2
        go_roundw
        case rel => exact ⟨k + 1, by omega, by go_num, rfl, H.out, belowN hb _⟩
        case measure => simp [intOf]; omega
      obtain ⟨m, HM⟩ : ∃ m, Hid (m + 1 = k) := ⟨k - 1, show k - 1 + 1 = k by omega⟩
      obtain ⟨_, _, p, he, _, hp, HP, hu0, _⟩ := DyePartR_at (F := dyePartF) rfl (fun _ => rfl) (fun _ => rfl) hR (show m < xs.length by have := HM.out; omega)
      cases he
      have hm0 : (0 : Int) ≤ (m : Int) := by omega
      have hm1 : (m : Int) < (xs.length : Int) := by have := HM.out; omega
      have hkj : (0 : Int) < (k : Int) := by omega
      have hkj' : decide ((0 : Int) < (k : Int)) = true := by rw [decide_eq_true_iff]; omega
      have ew : IntKind.i64.wrap ((k : Int) - 1) = (m : Int) := by have := HM.out; rw [IntWalk.i64_in _ (by omega)]; omega
      cases hid : Op.bytesLess p.f0.toList a.f0.toList with
      | true =>
        have H := Lib.hid (recTo_step HC.out HX.out hs (fun m' p' hm' hp' => by
          have := HM.out
          obtain rfl : m' = m := by omega
          rw [HP.out] at hp'
          cases hp'
          exact hid))
        go_quiet ((first | (go_at_call 46; exact quiet_same (l2Word_any _ _ ha0)) | (go_at_call 43; exact quiet_same (l1In_any _ _ _ _))))
        clear ew
        go_wp2
        go_roundw
        case rel => exact ⟨k + 1, by omega, by go_num, rfl, H.out, belowN hb _⟩
        case measure => simp [intOf]; omega
      | false =>
        have H := Lib.hid (rec_bad2 HX.out HP.out HM.out hid)
        go_quiet ((first | (go_at_call 46; exact quiet_same (l2Word_any _ _ ha0)) | (go_at_call 43; exact quiet_same (l1In_any _ _ _ _))))
        go_wp2
        go_ret
        exact ⟨ret_bool H.out.symm, belowN hb _⟩
    · by_cases hl : inB (xs.length : Int) 1 6 = true
      · have hl6 := inB_yes hl
        have H := Lib.hid (recB_yes (xs := xs) ⟨by omega, by obtain rfl : k = xs.length := (by omega); exact HC.out⟩)
        go_wp2_with (go_at_call 43; (with_reducible refine (l1In_any _ _ _ _).mono ?_); rintro e w' ⟨rfl, rfl⟩)
        go_ret
        exact ⟨ret_bool H.out.symm, hb⟩
      · have hl' := not_false hl
        have H := Lib.hid (recB_no (xs := xs) fun hh => hl (decide_eq_true (by have := hh.1; omega)))
        go_wp2_with (go_at_call 43; (with_reducible refine (l1In_any _ _ _ _).mono ?_); rintro e w' ⟨rfl, rfl⟩)
        go_ret
        exact ⟨ret_bool H.out.symm, hb⟩
end Go.Proofs.Ytjlidgeeehlkcaa
