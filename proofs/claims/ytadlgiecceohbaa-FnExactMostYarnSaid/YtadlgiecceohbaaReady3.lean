/- The walks of the model's MostYarn and of DepthLeft in both texts. No condition. -/
import Derived.Test.YtadlgiecceohbaaReady2
namespace Go.Proofs.Ytadlgiecceohbaa
open Go.RowKit

set_option maxRecDepth 100000 in
set_option maxHeartbeats 4000000 in
theorem specMostYarn_any (A : Option Addr) (n c B : Nat) (xs : List DyePartR) (L T Y : Int) (A' : Option Addr) (n' c' B' : Nat) (ys : List Int) (w : World) (h : RdF dyePartF w B A n c xs) (hB : B ≤ w.heap.size) (h' : Rd w B' A' n' c' ys) (hB' : B' ≤ w.heap.size) :
    Calls Try.prog 29 #[.slice A n c, bathV L T Y (.slice A' n' c')] w (Out w (.tuple #[.int .i64 (mostV xs L T Y ys), .bool (mostB xs L T Y ys)])) := by
  have HB : Below w.heap.size w (w.alloc (.cells #[.int .i64 L, .int .i64 T, .int .i64 Y, .slice A' n' c'] 34)) := (Below.refl _ _).alloc (Nat.le_refl _) _
  have x3 := Blk.new w #[.int .i64 L, .int .i64 T, .int .i64 Y, .slice A' n' c'] 34
  have hR1 := h.alloc hB (.cells #[.int .i64 L, .int .i64 T, .int .i64 Y, .slice A' n' c'] 34)
  have hR2 := h'.alloc hB' (.cells #[.int .i64 L, .int .i64 T, .int .i64 Y, .slice A' n' c'] 34)
  have hsz := HB.size
  have hz3 := x3.lt
  have e0 := x3.cell 0
  have e1 := x3.cell 1
  have e2 := x3.cell 2
  have e3 := x3.cell 3
  go_enter Try.func29, Try.ntmps29
  go_wp2_with fail
  generalize w.alloc (.cells #[.int .i64 L, .int .i64 T, .int .i64 Y, .slice A' n' c'] 34) = W1 at *
  refine (l7Bath_any A n c B xs L T Y A' n' c' B' ys _ hR1 (by omega) hR2 (by omega)).mono ?_
  rintro e w2 ⟨rfl, hb⟩
  clear e0 e1 e2 e3
  replace x3 := x3.all hb
  replace hR1 := hR1.all hb (by omega)
  replace hR2 := hR2.all hb (by omega)
  replace HB := HB.trans (hb.mono hsz)
  replace hsz := HB.size
  replace hz3 := x3.lt
  clear hb
  have e0 := x3.cell 0
  have e1 := x3.cell 1
  have e2 := x3.cell 2
  have e3 := x3.cell 3
  cases hg : bathB xs L T Y ys
  case false =>
    have hm : mostB xs L T Y ys = false := by unfold mostB; rw [hg]; rfl
    have H := Lib.hid (mostV_no hm)
    have HM := Lib.hid hm
    clear hm
    go_wp2
    go_ret2
    exact ⟨by rw [H.out, HM.out]; rfl, HB⟩
  have HG := Lib.hid hg
  clear hg
  go_wp2_with fail
  refine (l7Ready_any A n c B xs L T Y A' n' c' B' ys 0 _ hR1 (by omega) hR2 (by omega) HG.out (by omega) (by omega)).mono ?_
  rintro e w3 ⟨rfl, hb⟩
  clear e0 e1 e2 e3
  replace x3 := x3.all hb
  replace hR1 := hR1.all hb (by omega)
  replace hR2 := hR2.all hb (by omega)
  replace HB := HB.trans (hb.mono hsz)
  replace hsz := HB.size
  replace hz3 := x3.lt
  clear hb
  have e0 := x3.cell 0
  have e1 := x3.cell 1
  have e2 := x3.cell 2
  have e3 := x3.cell 3
  rw [ready_zero HG.out]
  cases hT : inB T 60 95
  case false =>
    have hm : mostB xs L T Y ys = false := by unfold mostB; rw [hT, Bool.and_false]
    have H := Lib.hid (mostV_no hm)
    have HM := Lib.hid hm
    clear hm
    go_wp2
    go_ret2
    exact ⟨by rw [H.out, HM.out]; rfl, HB⟩
  have hm : mostB xs L T Y ys = true := by unfold mostB; rw [hT, HG.out]; rfl
  have H := Lib.hid (mostV_yes hm)
  have HM := Lib.hid hm
  clear hm
  obtain ⟨b0, b1⟩ := most_bd HG.out
  have HI := Lib.hid (fun (y : Int) (hy : y ≤ 50000) => most_iff HG.out hT hy)
  clear hT
  obtain ⟨M, hM⟩ : ∃ M, mostY xs L ys = M := ⟨_, rfl⟩
  rw [hM] at b0 b1 H HI
  clear hM
  clear e0 e1 e2 e3
  go_wp2
  go_loopw [6, 7] (fun l h wr => ∃ (lo hi : Int), l = .int .i64 lo ∧ h = .int .i64 hi ∧ 0 ≤ lo ∧ lo ≤ M ∧ M ≤ hi ∧ hi ≤ 50000 ∧ Blk wr w.heap.size 34 #[.int .i64 L, .int .i64 T, .int .i64 Y, .slice A' n' c'] ∧ Below w.heap.size w wr) (fun l h _ => (intOf h - intOf l).toNat)
  case atStart => exact ⟨0, 50000, rfl, rfl, Int.le_refl _, b0, b1, Int.le_refl _, x3, HB⟩
  case round =>
    clear x3 hR1 hR2 HB hsz hz3
    obtain ⟨lo, hi, rfl, rfl, h0, h1, h2, h3, x3, HB⟩ := hrel
    by_cases hlt : lo < hi
    · have hR1 := h.all HB hB
      have hR2 := h'.all HB hB'
      have hsz := HB.size
      have hz3 := x3.lt
      have e0 := x3.cell 0
      have e1 := x3.cell 1
      have e2 := x3.cell 2
      have e3 := x3.cell 3
      obtain ⟨mid, hmid⟩ : ∃ mid, (lo + hi + 1) / 2 = mid := ⟨_, rfl⟩
      have hm0 : lo < mid := by omega
      have hm1 : mid ≤ hi := by omega
      have ew1 : IntKind.i64.wrap (lo + hi) = lo + hi := IntWalk.i64_in _ (by omega)
      have ew2 : IntKind.i64.wrap (lo + hi + 1) = lo + hi + 1 := IntWalk.i64_in _ (by omega)
      have ed : Int.tdiv (lo + hi + 1) 2 = mid := by rw [← hmid]; exact Int.tdiv_eq_ediv_of_nonneg (by omega)
      have ew3 : IntKind.i64.wrap mid = mid := IntWalk.i64_in _ (by omega)
      clear hmid
      go_wp2_with fail
      refine (l7Ready_any A n c B xs L T Y A' n' c' B' ys mid _ hR1 (by omega) hR2 (by omega) HG.out (by omega) (by omega)).mono ?_
      rintro e w4 ⟨rfl, hb⟩
      clear e0 e1 e2 e3
      replace x3 := x3.all hb
      replace HB := HB.trans (hb.mono hsz)
      clear hb ew1 ew2 ed ew3
      by_cases hle : mid ≤ M
      · rw [(HI.out mid (by omega)).2 hle]
        go_wp2
        go_roundw
        case rel => exact ⟨mid, hi, rfl, rfl, by omega, hle, h2, h3, x3, HB⟩
        case measure => simp [intOf]; omega
      · have hrf : readyB xs L T ys mid = false := by
          cases hr : readyB xs L T ys mid
          · rfl
          · exact absurd ((HI.out mid (by omega)).1 hr) hle
        rw [hrf]
        clear hrf
        have ew4 : IntKind.i64.wrap (mid - 1) = mid - 1 := IntWalk.i64_in _ (by omega)
        go_wp2
        go_roundw
        case rel => exact ⟨lo, mid - 1, rfl, by go_num, h0, h1, by omega, by omega, x3, HB⟩
        case measure => simp [intOf]; omega
    · obtain rfl : lo = M := by omega
      go_wp2
      go_ret2
      exact ⟨by rw [H.out, HM.out]; rfl, HB⟩
/-- What DepthLeft tells. -/
noncomputable def depthB (xs : List DyePartR) (L T Y : Int) (ys : List Int) (y : Int) : Bool := bathB xs L T Y ys && inB y 1 50000
theorem depth_no {xs : List DyePartR} {L T Y : Int} {ys : List Int} {y : Int} (h : depthB xs L T Y ys y = false) : depthI xs L T Y ys y = 0 := by unfold depthI; rw [if_neg (by unfold depthB at h; rw [h]; decide)]
theorem depth_yes {xs : List DyePartR} {L T Y : Int} {ys : List Int} {y : Int} (h : depthB xs L T Y ys y = true) : depthI xs L T Y ys y = depthTo xs ys y 100 := by unfold depthI; rw [if_pos (by unfold depthB at h; exact h)]
set_option maxRecDepth 100000 in
set_option maxHeartbeats 4000000 in
theorem implDepthLeft_any (A : Option Addr) (n c B : Nat) (xs : List DyePartR) (L T Y : Int) (A' : Option Addr) (n' c' B' : Nat) (ys : List Int) (y : Int) (w : World) (h : RdF dyePartF w B A n c xs) (hB : B ≤ w.heap.size) (h' : Rd w B' A' n' c' ys) (hB' : B' ≤ w.heap.size) :
    Calls Try.prog 38 #[.slice A n c, bathV L T Y (.slice A' n' c'), .int .i64 y] w (Out w (.tuple #[.int .i64 (depthI xs L T Y ys y), .bool (depthB xs L T Y ys y)])) := by
  have HLen := Lib.hid h'.len
  obtain rfl := h.len
  have HB : Below w.heap.size w (w.alloc (.cells #[.int .i64 L, .int .i64 T, .int .i64 Y, .slice A' n' c'] 34)) := (Below.refl _ _).alloc (Nat.le_refl _) _
  have x3 := Blk.new w #[.int .i64 L, .int .i64 T, .int .i64 Y, .slice A' n' c'] 34
  have hR1 := h.alloc hB (.cells #[.int .i64 L, .int .i64 T, .int .i64 Y, .slice A' n' c'] 34)
  have hR2 := h'.alloc hB' (.cells #[.int .i64 L, .int .i64 T, .int .i64 Y, .slice A' n' c'] 34)
  have hsz := HB.size
  have hz3 := x3.lt
  have e0 := x3.cell 0
  have e1 := x3.cell 1
  have e2 := x3.cell 2
  have e3 := x3.cell 3
  go_enter Try.func38, Try.ntmps38
  go_wp2_with fail
  generalize w.alloc (.cells #[.int .i64 L, .int .i64 T, .int .i64 Y, .slice A' n' c'] 34) = W1 at *
  refine (implIsBath_any A _ c B xs L T Y A' n' c' B' ys _ hR1 (by omega) hR2 (by omega)).mono ?_
  rintro e w2 ⟨rfl, hb⟩
  clear e0 e1 e2 e3
  replace x3 := x3.all hb
  replace hR1 := hR1.all hb (by omega)
  replace hR2 := hR2.all hb (by omega)
  replace HB := HB.trans (hb.mono hsz)
  replace hsz := HB.size
  replace hz3 := x3.lt
  clear hb
  have e0 := x3.cell 0
  have e1 := x3.cell 1
  have e2 := x3.cell 2
  have e3 := x3.cell 3
  cases hg : bathB xs L T Y ys
  case false =>
    have hm : depthB xs L T Y ys y = false := by unfold depthB; rw [hg]; rfl
    have H := Lib.hid (depth_no hm)
    have HM := Lib.hid hm
    clear hm
    go_wp2
    go_ret2
    exact ⟨by rw [H.out, HM.out]; rfl, HB⟩
  by_cases hy : 1 ≤ y ∧ y ≤ 50000
  rotate_left
  · have hm : depthB xs L T Y ys y = false := by unfold depthB inB; rw [decide_eq_false hy, Bool.and_false]
    have H := Lib.hid (depth_no hm)
    have HM := Lib.hid hm
    clear hm
    by_cases hyg : gramB y = true
    · have hy2 := inB_yes hyg
      obtain rfl : y = 0 := by omega
      go_wp2_with ((go_at_call 49; (with_reducible refine (isGrams_any _ _).mono ?_); rintro e w' ⟨rfl, rfl⟩))
      go_ret2
      exact ⟨by rw [H.out, HM.out]; rfl, HB⟩
    · have hyg' := not_false hyg
      go_wp2_with ((go_at_call 49; (with_reducible refine (isGrams_any _ _).mono ?_); rintro e w' ⟨rfl, rfl⟩))
      go_ret2
      exact ⟨by rw [H.out, HM.out]; rfl, HB⟩
  have hm : depthB xs L T Y ys y = true := by unfold depthB inB; rw [hg, decide_eq_true hy]; rfl
  have H := Lib.hid (depth_yes hm)
  have HM := Lib.hid hm
  clear hm
  obtain ⟨hy0, hy1⟩ := hy
  obtain ⟨hr, hle, hgr, ⟨hL0, hL1⟩, ⟨hT0, hT1⟩, hY0, hY1⟩ := bath_of hg
  have hn6 := rec_len hr
  obtain rfl : n' = xs.length := by rw [← HLen.out, hle]
  have HGR := Lib.hid hgr
  have HR := Lib.hid hr
  clear hle hgr hr hg
  have hyg : gramB y = true := decide_eq_true ⟨by omega, by omega⟩
  have hyz : ¬ (y = 0) := by omega
  go_wp2_with ((go_at_call 49; (with_reducible refine (isGrams_any _ _).mono ?_); rintro e w' ⟨rfl, rfl⟩))
  clear hyg hyz
  clear e0 e1 e2 e3
  go_loopw [26, 8] (fun i r wr => ∃ (k : Nat) (m : Int), k ≤ xs.length ∧ i = .int .i64 k ∧ r = .int .i64 m ∧ m = depthTo (xs.take k) (ys.take k) y 100 ∧ 0 ≤ m ∧ m ≤ 100 ∧ Blk wr w.heap.size 34 #[.int .i64 L, .int .i64 T, .int .i64 Y, .slice A' xs.length c'] ∧ Below w.heap.size w wr) (fun i _ _ => xs.length - (intOf i).toNat)
  case atStart => exact ⟨0, 100, Nat.zero_le _, rfl, rfl, (depthTo_zero _ _ _ _).symm, by omega, by omega, x3, HB⟩
  case round =>
    clear x3 hR1 hR2 HB hsz hz3
    obtain ⟨k, m, hk, rfl, rfl, hme, hma, hmb, x3, HB⟩ := hrel
    have HE := Lib.hid hme
    clear hme
    by_cases hlt : k < xs.length
    · have hR1 := h.all HB hB
      have hR2 := h'.all HB hB'
      have hsz := HB.size
      have hz3 := x3.lt
      obtain ⟨b', off', s, rfl, hbB', hc, _, _, HX⟩ := hR2.at hlt
      have HX' := Lib.hid (get_at (xs := ys) (by rw [HLen.out]; exact hlt) HX.out)
      obtain ⟨b, off, a, rfl, hbB, _, HA, hc0, hc1⟩ := DyePartR_at (F := dyePartF) rfl (fun _ => rfl) (fun _ => rfl) hR1 hlt
      obtain ⟨_, hp0, hp1⟩ := part_at HR.out HA.out
      obtain ⟨hs0, hs1⟩ := grams_at HGR.out HX'.out
      have hki : (0 : Int) ≤ (k : Int) := by omega
      have hkn : (k : Int) < (xs.length : Int) := by omega
      have hmul := mul_bd (show (0 : Int) ≤ a.f1 by omega) hp1 (show (0 : Int) ≤ y by omega) hy1
      have hmul1 : 1 ≤ a.f1 * y := Int.mul_pos (by omega) (by omega)
      obtain ⟨q, hq⟩ : ∃ q, 100000 * s / (a.f1 * y) = q := ⟨_, rfl⟩
      have hq0 : 0 ≤ q := by rw [← hq]; exact Int.ediv_nonneg (by omega) (by omega)
      have hq1 : q ≤ 5000000000 := by have := Int.ediv_le_self (a.f1 * y) (show 0 ≤ 100000 * s by omega); rw [← hq]; omega
      have ST := Lib.hid (depthTo_step xs ys y 100 k a s HA.out HX'.out)
      have ew : IntKind.i64.wrap (100 * s) = 100 * s := IntWalk.i64_in _ (by omega)
      have ew1 : IntKind.i64.wrap (100 * s * 1000) = 100 * s * 1000 := IntWalk.i64_in _ (by omega)
      have ew2 : IntKind.i64.wrap (a.f1 * y) = a.f1 * y := IntWalk.i64_in _ (by omega)
      have ed : Int.tdiv (100 * s * 1000) (a.f1 * y) = q := by rw [← hq, show 100 * s * 1000 = 100000 * s by omega]; exact Int.tdiv_eq_ediv_of_nonneg (by omega)
      have eq' : IntKind.i64.wrap q = q := IntWalk.i64_in _ (by omega)
      have hnz : ¬ (a.f1 * y = 0) := by omega
      have x8 := Blk.new wr #[.string a.f0, .int .i64 a.f1] 58
      have HBA := HB.alloc hsz (.cells #[.string a.f0, .int .i64 a.f1] 58)
      have x3A := x3.alloc (.cells #[.string a.f0, .int .i64 a.f1] 58)
      have hcB : (wr.alloc (.cells #[.string a.f0, .int .i64 a.f1] 58)).cell? ⟨b', off' + k, none⟩ = some (.int .i64 s) := (World.cell?_alloc_lt wr _ ⟨b', _, none⟩ (by show b' < _; omega)).trans hc
      go_wp2_with fail
      clear hc hc0 hc1 x3 HB hR1 hR2
      generalize wr.alloc (.cells #[.string a.f0, .int .i64 a.f1] 58) = W4 at *
      generalize wr.heap.size = P at *
      have e3 := x3A.cell 3
      have e81 := x8.cell 1
      rcases Int.lt_or_le q m with hqm | hqm
      · have emin : min m q = q := Int.min_eq_right (by omega)
        go_region
        all_goals
          go_wp2
          go_roundw
          case rel => exact ⟨k + 1, q, by omega, by go_num, by go_num, by rw [ST.out, ← HE.out, hq, emin], hq0, by omega, x3A, by repeat (first | assumption | exact Below.refl _ _ | refine belowN ?_ _ | refine belowD ?_ | (refine Below.setCell ?_ (by first | (simp; done) | (simp; omega) | omega) _) | (refine Below.alloc ?_ (by first | (simp; done) | (simp; omega) | omega) _))⟩
          case measure => simp [intOf]; omega
      · have emin : min m q = m := Int.min_eq_left (by omega)
        go_region
        all_goals
          go_wp2
          go_roundw
          case rel => exact ⟨k + 1, m, by omega, by go_num, by go_num, by rw [ST.out, ← HE.out, hq, emin], hma, hmb, x3A, by repeat (first | assumption | exact Below.refl _ _ | refine belowN ?_ _ | refine belowD ?_ | (refine Below.setCell ?_ (by first | (simp; done) | (simp; omega) | omega) _) | (refine Below.alloc ?_ (by first | (simp; done) | (simp; omega) | omega) _))⟩
          case measure => simp [intOf]; omega
    · have HF := Lib.hid (show depthI xs L T Y ys y = m by rw [H.out, HE.out, List.take_of_length_le (by omega), List.take_of_length_le (by rw [HLen.out]; omega)])
      go_wp2
      go_ret2
      exact ⟨by rw [HF.out, HM.out]; rfl, HB⟩
set_option maxRecDepth 100000 in
set_option maxHeartbeats 4000000 in
theorem specDepthLeft_any (A : Option Addr) (n c B : Nat) (xs : List DyePartR) (L T Y : Int) (A' : Option Addr) (n' c' B' : Nat) (ys : List Int) (y : Int) (w : World) (h : RdF dyePartF w B A n c xs) (hB : B ≤ w.heap.size) (h' : Rd w B' A' n' c' ys) (hB' : B' ≤ w.heap.size) :
    Calls Try.prog 37 #[.slice A n c, bathV L T Y (.slice A' n' c'), .int .i64 y] w (Out w (.tuple #[.int .i64 (depthI xs L T Y ys y), .bool (depthB xs L T Y ys y)])) := by
  have HLen := Lib.hid h'.len
  obtain rfl := h.len
  have HB : Below w.heap.size w (w.alloc (.cells #[.int .i64 L, .int .i64 T, .int .i64 Y, .slice A' n' c'] 34)) := (Below.refl _ _).alloc (Nat.le_refl _) _
  have x3 := Blk.new w #[.int .i64 L, .int .i64 T, .int .i64 Y, .slice A' n' c'] 34
  have hR1 := h.alloc hB (.cells #[.int .i64 L, .int .i64 T, .int .i64 Y, .slice A' n' c'] 34)
  have hR2 := h'.alloc hB' (.cells #[.int .i64 L, .int .i64 T, .int .i64 Y, .slice A' n' c'] 34)
  have hsz := HB.size
  have hz3 := x3.lt
  have e0 := x3.cell 0
  have e1 := x3.cell 1
  have e2 := x3.cell 2
  have e3 := x3.cell 3
  go_enter Try.func37, Try.ntmps37
  go_wp2_with fail
  generalize w.alloc (.cells #[.int .i64 L, .int .i64 T, .int .i64 Y, .slice A' n' c'] 34) = W1 at *
  refine (l7Bath_any A _ c B xs L T Y A' n' c' B' ys _ hR1 (by omega) hR2 (by omega)).mono ?_
  rintro e w2 ⟨rfl, hb⟩
  clear e0 e1 e2 e3
  replace x3 := x3.all hb
  replace hR1 := hR1.all hb (by omega)
  replace hR2 := hR2.all hb (by omega)
  replace HB := HB.trans (hb.mono hsz)
  replace hsz := HB.size
  replace hz3 := x3.lt
  clear hb
  have e0 := x3.cell 0
  have e1 := x3.cell 1
  have e2 := x3.cell 2
  have e3 := x3.cell 3
  cases hg : bathB xs L T Y ys
  case false =>
    have hm : depthB xs L T Y ys y = false := by unfold depthB; rw [hg]; rfl
    have H := Lib.hid (depth_no hm)
    have HM := Lib.hid hm
    clear hm
    go_wp2
    go_ret2
    exact ⟨by rw [H.out, HM.out]; rfl, HB⟩
  by_cases hy : 1 ≤ y ∧ y ≤ 50000
  rotate_left
  · have hm : depthB xs L T Y ys y = false := by unfold depthB inB; rw [decide_eq_false hy, Bool.and_false]
    have H := Lib.hid (depth_no hm)
    have HM := Lib.hid hm
    clear hm
    have hyg' : inB y 1 50000 = false := decide_eq_false hy
    go_wp2_with ((go_at_call 60; (with_reducible refine (l1In_any _ _ _ _).mono ?_); rintro e w' ⟨rfl, rfl⟩))
    go_ret2
    exact ⟨by rw [H.out, HM.out]; rfl, HB⟩
  have hm : depthB xs L T Y ys y = true := by unfold depthB inB; rw [hg, decide_eq_true hy]; rfl
  have H := Lib.hid (depth_yes hm)
  have HM := Lib.hid hm
  clear hm
  obtain ⟨hy0, hy1⟩ := hy
  obtain ⟨hr, hle, hgr, ⟨hL0, hL1⟩, ⟨hT0, hT1⟩, hY0, hY1⟩ := bath_of hg
  have hn6 := rec_len hr
  obtain rfl : n' = xs.length := by rw [← HLen.out, hle]
  have HGR := Lib.hid hgr
  have HR := Lib.hid hr
  clear hle hgr hr hg
  have hyg : inB y 1 50000 = true := decide_eq_true ⟨by omega, by omega⟩
  go_wp2_with ((go_at_call 60; (with_reducible refine (l1In_any _ _ _ _).mono ?_); rintro e w' ⟨rfl, rfl⟩))
  clear hyg
  clear e0 e1 e2 e3
  go_loopw [8, 9] (fun r i wr => ∃ (k : Nat) (m : Int), k ≤ xs.length ∧ i = .int .i64 k ∧ r = .int .i64 m ∧ m = depthTo (xs.take k) (ys.take k) y 100 ∧ 0 ≤ m ∧ m ≤ 100 ∧ Blk wr w.heap.size 34 #[.int .i64 L, .int .i64 T, .int .i64 Y, .slice A' xs.length c'] ∧ Below w.heap.size w wr) (fun _ i _ => xs.length - (intOf i).toNat)
  case atStart => exact ⟨0, 100, Nat.zero_le _, rfl, rfl, (depthTo_zero _ _ _ _).symm, by omega, by omega, x3, HB⟩
  case round =>
    clear x3 hR1 hR2 HB hsz hz3
    obtain ⟨k, m, hk, rfl, rfl, hme, hma, hmb, x3, HB⟩ := hrel
    have HE := Lib.hid hme
    clear hme
    by_cases hlt : k < xs.length
    · have hR1 := h.all HB hB
      have hR2 := h'.all HB hB'
      have hsz := HB.size
      have hz3 := x3.lt
      obtain ⟨b', off', s, rfl, hbB', hc, _, _, HX⟩ := hR2.at hlt
      have HX' := Lib.hid (get_at (xs := ys) (by rw [HLen.out]; exact hlt) HX.out)
      obtain ⟨b, off, a, rfl, hbB, _, HA, hc0, hc1⟩ := DyePartR_at (F := dyePartF) rfl (fun _ => rfl) (fun _ => rfl) hR1 hlt
      obtain ⟨_, hp0, hp1⟩ := part_at HR.out HA.out
      obtain ⟨hs0, hs1⟩ := grams_at HGR.out HX'.out
      have hki : (0 : Int) ≤ (k : Int) := by omega
      have hkn : (k : Int) < (xs.length : Int) := by omega
      have hmul := mul_bd (show (0 : Int) ≤ a.f1 by omega) hp1 (show (0 : Int) ≤ y by omega) hy1
      have hmul1 : 1 ≤ a.f1 * y := Int.mul_pos (by omega) (by omega)
      obtain ⟨q, hq⟩ : ∃ q, 100000 * s / (a.f1 * y) = q := ⟨_, rfl⟩
      have hq0 : 0 ≤ q := by rw [← hq]; exact Int.ediv_nonneg (by omega) (by omega)
      have hq1 : q ≤ 5000000000 := by have := Int.ediv_le_self (a.f1 * y) (show 0 ≤ 100000 * s by omega); rw [← hq]; omega
      have ST := Lib.hid (depthTo_step xs ys y 100 k a s HA.out HX'.out)
      have ew : IntKind.i64.wrap (100000 * s) = 100000 * s := IntWalk.i64_in _ (by omega)
      have ew2 : IntKind.i64.wrap (a.f1 * y) = a.f1 * y := IntWalk.i64_in _ (by omega)
      have ed : Int.tdiv (100000 * s) (a.f1 * y) = q := by rw [← hq]; exact Int.tdiv_eq_ediv_of_nonneg (by omega)
      have eq' : IntKind.i64.wrap q = q := IntWalk.i64_in _ (by omega)
      have hnz : ¬ (a.f1 * y = 0) := by omega
      have e3 := x3.cell 3
      obtain ⟨m', hm'⟩ : ∃ m', leastI m q = m' := ⟨_, rfl⟩
      have HM' := Lib.hid (show min m q = m' by rw [← hm']; unfold leastI; split <;> omega)
      have hm'0 : 0 ≤ m' ∧ m' ≤ 100 := by have := HM'.out; omega
      go_wp2
      go_quiet ((go_at_call 61; exact quiet_same (least_eq _ _ m' _ hm')))
      have x3q : Blk (wr.drewN nq) _ _ _ := x3
      have HBq := belowN HB nq
      go_wp2
      go_roundw
      case rel => exact ⟨k + 1, m', by omega, by go_num, rfl, by rw [ST.out, ← HE.out, hq, HM'.out], hm'0.1, hm'0.2, x3q, HBq⟩
      case measure => simp [intOf]; omega
    · have HF := Lib.hid (show depthI xs L T Y ys y = m by rw [H.out, HE.out, List.take_of_length_le (by omega), List.take_of_length_le (by rw [HLen.out]; omega)])
      go_wp2
      go_ret2
      exact ⟨by rw [HF.out, HM.out]; rfl, HB⟩
end Go.Proofs.Ytadlgiecceohbaa
