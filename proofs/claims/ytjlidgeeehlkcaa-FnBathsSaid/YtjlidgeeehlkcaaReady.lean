/- The walks that tell whether a bath is ready, both texts. Condition: a valid bath. -/
import Derived.Test.YtjlidgeeehlkcaaNeeds
namespace Go.Proofs.Ytjlidgeeehlkcaa
open Go.RowKit

set_option maxRecDepth 100000 in
set_option maxHeartbeats 400000 in
theorem isReadyHeat_any (x : Int) (w : World) : Calls Try.prog 30 #[.int .i64 x] w fun e w' => e = .returned (.bool (inB x 60 95)) ∧ w = w' := by
  go_enter Try.func30, Try.ntmps30
  go_wp2_with (go_at_call 29; (with_reducible refine (isBetween_any _ _ _ _).mono ?_); rintro e w' ⟨rfl, rfl⟩)
  go_ret
  exact ⟨rfl, rfl⟩
theorem dividedUp_eq (x q : Int) (w : World) (h0 : 0 ≤ x) (h1 : x ≤ 1000000000000) (hq : (x + 999) / 1000 = q) : Calls Try.prog 41 #[.int .i64 x, .int .i64 1000] w fun e w' => e = .returned (.int .i64 q) ∧ w = w' :=
  (dividedUp_any x 1000 w h0 h1 (by omega) (by omega)).mono fun e w' ⟨he, hw⟩ => ⟨by rw [he, ← hq]; rfl, hw⟩
theorem enough_end {xs : List DyePartR} {ys : List Int} {y : Int} {k : Nat} (h : EnoughTo xs ys y k) (hk : xs.length ≤ k) : enoughB xs ys y = true := enoughB_yes fun i p s hi => h i p s (by omega)
set_option maxRecDepth 100000 in
set_option maxHeartbeats 4000000 in
theorem isReadyBath_any (A : Option Addr) (n c B : Nat) (xs : List DyePartR) (L T Y : Int) (A' : Option Addr) (n' c' B' : Nat) (ys : List Int) (w : World) (h : RdF dyePartF w B A n c xs) (hB : B ≤ w.heap.size) (h' : Rd w B' A' n' c' ys) (hB' : B' ≤ w.heap.size) (hbath : bathB xs L T Y ys = true) :
    Calls Try.prog 21 #[.slice A n c, bathV L T Y (.slice A' n' c')] w (Tells w (readyB xs L T ys Y)) := by
  obtain ⟨hr, hle, hgr, ⟨hL0, hL1⟩, ⟨hT0, hT1⟩, hY0, hY1⟩ := bath_of hbath
  obtain rfl := h.len
  have HLen := Lib.hid h'.len
  have hn6 := rec_len hr
  obtain rfl : n' = xs.length := by rw [← h'.len, hle]
  have HGR := Lib.hid hgr
  have HR := Lib.hid hr
  clear hle hgr hr hbath
  have HB : Below w.heap.size w (w.alloc (.cells #[.int .i64 L, .int .i64 T, .int .i64 Y, .slice A' xs.length c'] 27)) := (Below.refl _ _).alloc (Nat.le_refl _) _
  have x3 := Blk.new w #[.int .i64 L, .int .i64 T, .int .i64 Y, .slice A' xs.length c'] 27
  have hR1 := h.alloc hB (.cells #[.int .i64 L, .int .i64 T, .int .i64 Y, .slice A' xs.length c'] 27)
  have hR2 := h'.alloc hB' (.cells #[.int .i64 L, .int .i64 T, .int .i64 Y, .slice A' xs.length c'] 27)
  have e0 := x3.cell 0
  have e1 := x3.cell 1
  have e2 := x3.cell 2
  obtain ⟨q, hq⟩ : ∃ q, (Y + 999) / 1000 = q := ⟨_, rfl⟩
  have hq0 : 0 ≤ q := by omega
  have hq1 : q ≤ 51 := by omega
  have HW := Lib.hid (show waterB L Y = decide (20 * q ≤ L) by unfold waterB; rw [hq])
  have eq20 : IntKind.i64.wrap (20 * q) = 20 * q := IntWalk.i64_in _ (by omega)
  go_enter Try.func21, Try.ntmps21
  go_wp2
  generalize w.alloc (.cells #[.int .i64 L, .int .i64 T, .int .i64 Y, .slice A' xs.length c'] 27) = W1 at *
  have hsz := HB.size
  cases hT : inB T 60 95
  case false =>
    have H := Lib.hid (show readyB xs L T ys Y = false by unfold readyB; rw [hT, Bool.and_false])
    go_quiet ((first | (go_at_call 30; exact quiet_same (isReadyHeat_any _ _)) | (go_at_call 41; exact quiet_same (dividedUp_eq _ q _ hY0 (by omega) hq))))
    go_wp2
    go_ret
    exact ⟨ret_bool H.out.symm, belowN HB _⟩
  by_cases hw : L < 20 * q
  · have hwd : decide (L < 20 * q) = true := decide_eq_true hw
    have H := Lib.hid (show readyB xs L T ys Y = false by unfold readyB; rw [HW.out, decide_eq_false (by omega), Bool.and_false]; rfl)
    go_quiet ((first | (go_at_call 30; exact quiet_same (isReadyHeat_any _ _)) | (go_at_call 41; exact quiet_same (dividedUp_eq _ q _ hY0 (by omega) hq))))
    go_wp2
    go_ret
    exact ⟨ret_bool H.out.symm, belowN HB _⟩
  have hwd : decide (L < 20 * q) = false := decide_eq_false hw
  go_quiet ((first | (go_at_call 30; exact quiet_same (isReadyHeat_any _ _)) | (go_at_call 41; exact quiet_same (dividedUp_eq _ q _ hY0 (by omega) hq))))
  have HT := Lib.hid (show readyB xs L T ys Y = enoughB xs ys Y by unfold readyB; rw [HW.out, decide_eq_true (by omega), hT, Bool.and_true, Bool.and_true])
  clear eq20 hwd hw hT hq HW hq0 hq1 e0 e1 e2
  replace HB := belowN HB nq
  replace x3 : Blk (W1.drewN nq) w.heap.size 27 #[.int .i64 L, .int .i64 T, .int .i64 Y, .slice A' xs.length c'] := x3
  replace hR1 := hR1.drewN nq
  replace hR2 := hR2.drewN nq
  replace hsz : w.heap.size ≤ (W1.drewN nq).heap.size := hsz
  generalize W1.drewN nq = W2 at *
  have e2 := x3.cell 2
  go_wp2_with fail
  refine (needsOf_any A _ c B xs Y _ hR1 (by omega) HR.out hY0 hY1).mono ?_
  rintro e w3 ⟨g, rfl, own, hb⟩
  clear e2
  replace x3 := x3.all hb
  replace hR1 := hR1.all hb (by omega)
  replace hR2 := hR2.all hb (by omega)
  replace HB := HB.trans (hb.mono hsz)
  clear hb
  have e3 := x3.cell 3
  rw [needs_len] at own ⊢
  go_wp2
  go_loopw [25, 4] (fun i r wr => ∃ k : Nat, k ≤ xs.length ∧ i = .int .i64 k ∧ r = .bool false ∧ EnoughTo xs ys Y k ∧ wr = w3) (fun i _ _ => xs.length - (intOf i).toNat)
  case atStart => exact ⟨0, Nat.zero_le _, rfl, rfl, enough_zero _ _ _, rfl⟩
  case round =>
    obtain ⟨k, hk, rfl, rfl, hct, rfl⟩ := hrel
    have HC := Lib.hid hct
    clear hct
    by_cases hlt : k < xs.length
    · obtain ⟨b, off, x, rfl, hbB, hc, _, _, HX⟩ := hR2.at hlt
      have HX' := Lib.hid (get_at (xs := ys) (by rw [HLen.out]; exact hlt) HX.out)
      obtain ⟨a, HA⟩ : ∃ a, Hid (xs[k]? = some a) := ⟨_, List.getElem?_eq_getElem hlt⟩
      have HN := Lib.hid (needs_at (y := Y) HA.out)
      have hgc : wr.cell? ⟨g, k, none⟩ = some (.int .i64 (needI a Y)) := own_at own (by rw [needs_len]; exact hlt) (by rw [List.getD_eq_getElem?_getD, HN.out]; rfl)
      have hki : (0 : Int) ≤ (k : Int) := by omega
      have hkn : (k : Int) < (xs.length : Int) := by omega
      by_cases hlt2 : x < needI a Y
      · have H := Lib.hid (enoughB_no HA.out HX'.out hlt2)
        go_wp2
        go_ret
        exact ⟨ret_bool (by rw [HT.out, H.out]), HB⟩
      · have H := Lib.hid (enough_step HC.out HA.out HX'.out (by omega))
        go_wp2
        go_roundw
        case rel => exact ⟨k + 1, by omega, by go_num, rfl, H.out, by first | rfl | trivial⟩
        case measure => simp [intOf]; omega
    · have H := Lib.hid (enough_end HC.out (by omega))
      go_wp2
      go_ret
      exact ⟨ret_bool (by rw [HT.out, H.out]), HB⟩
set_option maxRecDepth 100000 in
set_option maxHeartbeats 4000000 in
theorem l7Ready_any (A : Option Addr) (n c B : Nat) (xs : List DyePartR) (L T Y : Int) (A' : Option Addr) (n' c' B' : Nat) (ys : List Int) (y : Int) (w : World) (h : RdF dyePartF w B A n c xs) (hB : B ≤ w.heap.size) (h' : Rd w B' A' n' c' ys) (hB' : B' ≤ w.heap.size) (hbath : bathB xs L T Y ys = true) (hY0 : 0 ≤ y) (hY1 : y ≤ 50000) :
    Calls Try.prog 25 #[.slice A n c, bathV L T Y (.slice A' n' c'), .int .i64 y] w (Tells w (readyB xs L T ys y)) := by
  obtain ⟨hr, hle, hgr, ⟨hL0, hL1⟩, ⟨hT0, hT1⟩, _, _⟩ := bath_of hbath
  obtain rfl := h.len
  have HLen := Lib.hid h'.len
  have hn6 := rec_len hr
  obtain rfl : n' = xs.length := by rw [← h'.len, hle]
  have HGR := Lib.hid hgr
  have HR := Lib.hid hr
  clear hle hgr hr hbath
  have HB : Below w.heap.size w (w.alloc (.cells #[.int .i64 L, .int .i64 T, .int .i64 Y, .slice A' xs.length c'] 27)) := (Below.refl _ _).alloc (Nat.le_refl _) _
  have x3 := Blk.new w #[.int .i64 L, .int .i64 T, .int .i64 Y, .slice A' xs.length c'] 27
  have hR1 := h.alloc hB (.cells #[.int .i64 L, .int .i64 T, .int .i64 Y, .slice A' xs.length c'] 27)
  have hR2 := h'.alloc hB' (.cells #[.int .i64 L, .int .i64 T, .int .i64 Y, .slice A' xs.length c'] 27)
  have hsz := HB.size
  obtain ⟨q, hq⟩ : ∃ q, (y + 999) / 1000 = q := ⟨_, rfl⟩
  have hq0 : 0 ≤ q := by omega
  have hq1 : q ≤ 51 := by omega
  have HW := Lib.hid (show waterB L y = decide (20 * q ≤ L) by unfold waterB; rw [hq])
  have HQ := Lib.hid hq
  clear hq
  go_enter Try.func25, Try.ntmps25
  go_wp2_with fail
  generalize w.alloc (.cells #[.int .i64 L, .int .i64 T, .int .i64 Y, .slice A' xs.length c'] 27) = W1 at *
  refine (l7Needs_any A _ c B xs y _ hR1 (by omega) HR.out hY0 hY1).mono ?_
  rintro e w3 ⟨A2, c2, rfl, own, hb⟩
  replace x3 := x3.all hb
  replace hR1 := hR1.all hb (by omega)
  replace hR2 := hR2.all hb (by omega)
  replace HB := HB.trans (hb.mono hsz)
  replace hsz := HB.size
  clear hb
  rw [needs_len] at own ⊢
  obtain ⟨g, rfl, hg1, hg2⟩ := own.some_ (by rw [needs_len]; omega)
  go_wp2
  go_loopw [8, 6] (fun i r wr => ∃ (k q : Nat), k ≤ xs.length ∧ i = .int .i64 k ∧ r = .bool false ∧ EnoughTo xs ys y k ∧ wr = w3.drewN q) (fun i _ _ => xs.length - (intOf i).toNat)
  case atStart => exact ⟨0, 0, Nat.zero_le _, rfl, rfl, enough_zero _ _ _, rfl⟩
  case round =>
    obtain ⟨k, q2, hk, rfl, rfl, hct, hw3⟩ := hrel
    have HC := Lib.hid hct
    clear hct
    have x3 : Blk wr w.heap.size 27 #[.int .i64 L, .int .i64 T, .int .i64 Y, .slice A' xs.length c'] := by rw [hw3]; exact x3
    have hR2 : Rd wr B' A' xs.length c' ys := by rw [hw3]; exact hR2.drewN _
    have own : Own wr W1.heap.size (.slice (some ⟨g, 0, none⟩) xs.length c2) (needs xs y) := by rw [hw3]; exact own.drewN _
    have HB : Below w.heap.size w wr := by rw [hw3]; exact belowN HB _
    have HW3 := Lib.hid hw3
    clear hw3
    by_cases hlt : k < xs.length
    · obtain ⟨b, off, x, rfl, hbB, hc, _, _, HX⟩ := hR2.at hlt
      have HX' := Lib.hid (get_at (xs := ys) (by rw [HLen.out]; exact hlt) HX.out)
      obtain ⟨a, HA⟩ : ∃ a, Hid (xs[k]? = some a) := ⟨_, List.getElem?_eq_getElem hlt⟩
      have HN := Lib.hid (needs_at (y := y) HA.out)
      have hgc : wr.cell? ⟨g, k, none⟩ = some (.int .i64 (needI a y)) := own_at own (by rw [needs_len]; exact hlt) (by rw [List.getD_eq_getElem?_getD, HN.out]; rfl)
      have e3 := x3.cell 3
      have hki : (0 : Int) ≤ (k : Int) := by omega
      have hkn : (k : Int) < (xs.length : Int) := by omega
      by_cases hlt2 : x < needI a y
      · have H := Lib.hid (enoughB_no HA.out HX'.out hlt2)
        go_wp2
        go_quiet (fail)
        go_wp2
        go_ret
        exact ⟨ret_bool (by unfold readyB; rw [H.out]; rfl), belowN HB _⟩
      · have H := Lib.hid (enough_step HC.out HA.out HX'.out (by omega))
        go_wp2
        go_quiet (fail)
        go_wp2
        go_roundw
        case rel => exact ⟨k + 1, q2 + nq, by omega, by go_num, rfl, H.out, by rw [HW3.out]; first | rfl | (simp [World.drewN, Nat.add_assoc]; done)⟩
        case measure => simp [intOf]; omega
    · have H := Lib.hid (enough_end HC.out (by omega))
      have e0 := x3.cell 0
      have e1 := x3.cell 1
      have ea : IntKind.i64.wrap (y + 999) = y + 999 := IntWalk.i64_in _ (by omega)
      have ed : Int.tdiv (y + 999) 1000 = q := by rw [← HQ.out]; exact Int.tdiv_eq_ediv_of_nonneg (by omega)
      have HRD := Lib.hid (show readyB xs L T ys y = (decide (20 * q ≤ L) && inB T 60 95) by unfold readyB; rw [H.out, HW.out, Bool.true_and])
      by_cases hw : 20 * q ≤ L
      · cases hT : inB T 60 95 <;> (go_wp2_with ((go_at_call 43; (with_reducible refine (l1In_any _ _ _ _).mono ?_); rintro e w' ⟨rfl, rfl⟩)); go_ret; exact ⟨ret_bool (by rw [HRD.out, hT, decide_eq_true hw]; first | rfl | simp), HB⟩)
      · go_wp2_with ((go_at_call 43; (with_reducible refine (l1In_any _ _ _ _).mono ?_); rintro e w' ⟨rfl, rfl⟩))
        go_ret
        exact ⟨ret_bool (by rw [HRD.out, decide_eq_false (by omega)]; first | rfl | simp), HB⟩
end Go.Proofs.Ytjlidgeeehlkcaa
