/- The walks of the model's MostYarn and of DepthLeft in both texts. No condition. -/
import Derived.Test.YtjlidgeeehlkcaaReady2
namespace Go.Proofs.Ytjlidgeeehlkcaa
open Go.RowKit

set_option maxRecDepth 100000 in
set_option maxHeartbeats 4000000 in
theorem specMostYarn_any (A : Option Addr) (n c B : Nat) (xs : List DyePartR) (L T Y : Int) (A' : Option Addr) (n' c' B' : Nat) (ys : List Int) (w : World) (h : RdF dyePartF w B A n c xs) (hB : B ≤ w.heap.size) (h' : Rd w B' A' n' c' ys) (hB' : B' ≤ w.heap.size) :
    Calls Try.prog 13 #[.slice A n c, bathV L T Y (.slice A' n' c')] w (Out w (.tuple #[.int .i64 (mostV xs L T Y ys), .bool (mostB xs L T Y ys)])) := by
  have HB : Below w.heap.size w (w.alloc (.cells #[.int .i64 L, .int .i64 T, .int .i64 Y, .slice A' n' c'] 27)) := (Below.refl _ _).alloc (Nat.le_refl _) _
  have x3 := Blk.new w #[.int .i64 L, .int .i64 T, .int .i64 Y, .slice A' n' c'] 27
  have hR1 := h.alloc hB (.cells #[.int .i64 L, .int .i64 T, .int .i64 Y, .slice A' n' c'] 27)
  have hR2 := h'.alloc hB' (.cells #[.int .i64 L, .int .i64 T, .int .i64 Y, .slice A' n' c'] 27)
  have hsz := HB.size
  have hz3 := x3.lt
  have e0 := x3.cell 0
  have e1 := x3.cell 1
  have e2 := x3.cell 2
  have e3 := x3.cell 3
  go_enter Try.func13, Try.ntmps13
  go_wp2_with fail
  generalize w.alloc (.cells #[.int .i64 L, .int .i64 T, .int .i64 Y, .slice A' n' c'] 27) = W1 at *
  refine (l7Bath_any A n c B xs L T Y A' n' c' B' ys _ hR1 (by omega) hR2 (by omega)).mono ?_
  rintro e w2 ⟨rfl, hb⟩
  clear e0 e1 e2 e3
  replace x3 := x3.all hb
  replace hR1 := hR1.all hb (by omega)
  replace hR2 := hR2.all hb (by omega)
  replace HB := HB.trans (hb.mono hsz)
  replace hsz := HB.size
  replace hz3 := x3.lt
  clear hb
  have e0 := x3.cell 0
  have e1 := x3.cell 1
  have e2 := x3.cell 2
  have e3 := x3.cell 3
  cases hg : bathB xs L T Y ys
  case false =>
    have hm : mostB xs L T Y ys = false := by unfold mostB; rw [hg]; rfl
    have H := Lib.hid (mostV_no hm)
    have HM := Lib.hid hm
    clear hm
    go_wp2
    go_ret2
    exact ⟨by rw [H.out, HM.out]; rfl, HB⟩
  have HG := Lib.hid hg
  clear hg
  go_wp2_with fail
  refine (l7Ready_any A n c B xs L T Y A' n' c' B' ys 0 _ hR1 (by omega) hR2 (by omega) HG.out (by omega) (by omega)).mono ?_
  rintro e w3 ⟨rfl, hb⟩
  clear e0 e1 e2 e3
  replace x3 := x3.all hb
  replace hR1 := hR1.all hb (by omega)
  replace hR2 := hR2.all hb (by omega)
  replace HB := HB.trans (hb.mono hsz)
  replace hsz := HB.size
  replace hz3 := x3.lt
  clear hb
  have e0 := x3.cell 0
  have e1 := x3.cell 1
  have e2 := x3.cell 2
  have e3 := x3.cell 3
  rw [ready_zero HG.out]
  cases hT : inB T 60 95
  case false =>
    have hm : mostB xs L T Y ys = false := by unfold mostB; rw [hT, Bool.and_false]
    have H := Lib.hid (mostV_no hm)
    have HM := Lib.hid hm
    clear hm
    go_wp2
    go_ret2
    exact ⟨by rw [H.out, HM.out]; rfl, HB⟩
  have hm : mostB xs L T Y ys = true := by unfold mostB; rw [hT, HG.out]; rfl
  have H := Lib.hid (mostV_yes hm)
  have HM := Lib.hid hm
  clear hm
  obtain ⟨b0, b1⟩ := most_bd HG.out
  have HI := Lib.hid (fun (y : Int) (hy : y ≤ 50000) => most_iff HG.out hT hy)
  clear hT
  obtain ⟨M, hM⟩ : ∃ M, mostY xs L ys = M := ⟨_, rfl⟩
  rw [hM] at b0 b1 H HI
  clear hM
  clear e0 e1 e2 e3
  go_wp2
  go_loopw [6, 7] (fun l h wr => ∃ (lo hi : Int), l = .int .i64 lo ∧ h = .int .i64 hi ∧ 0 ≤ lo ∧ lo ≤ M ∧ M ≤ hi ∧ hi ≤ 50000 ∧ Blk wr w.heap.size 27 #[.int .i64 L, .int .i64 T, .int .i64 Y, .slice A' n' c'] ∧ Below w.heap.size w wr) (fun l h _ => (intOf h - intOf l).toNat)
  case atStart => exact ⟨0, 50000, rfl, rfl, Int.le_refl _, b0, b1, Int.le_refl _, x3, HB⟩
  case round =>
    clear x3 hR1 hR2 HB hsz hz3
    obtain ⟨lo, hi, rfl, rfl, h0, h1, h2, h3, x3, HB⟩ := hrel
    by_cases hlt : lo < hi
    · have hR1 := h.all HB hB
      have hR2 := h'.all HB hB'
      have hsz := HB.size
      have hz3 := x3.lt
      have e0 := x3.cell 0
      have e1 := x3.cell 1
      have e2 := x3.cell 2
      have e3 := x3.cell 3
      obtain ⟨mid, hmid⟩ : ∃ mid, (lo + hi + 1) / 2 = mid := ⟨_, rfl⟩
      have hm0 : lo < mid := by omega
      have hm1 : mid ≤ hi := by omega
      have ew1 : IntKind.i64.wrap (lo + hi) = lo + hi := IntWalk.i64_in _ (by omega)
      have ew2 : IntKind.i64.wrap (lo + hi + 1) = lo + hi + 1 := IntWalk.i64_in _ (by omega)
      have ed : Int.tdiv (lo + hi + 1) 2 = mid := by rw [← hmid]; exact Int.tdiv_eq_ediv_of_nonneg (by omega)
      have ew3 : IntKind.i64.wrap mid = mid := IntWalk.i64_in _ (by omega)
      clear hmid
      go_wp2_with fail
      refine (l7Ready_any A n c B xs L T Y A' n' c' B' ys mid _ hR1 (by omega) hR2 (by omega) HG.out (by omega) (by omega)).mono ?_
      rintro e w4 ⟨rfl, hb⟩
      clear e0 e1 e2 e3
      replace x3 := x3.all hb
      replace HB := HB.trans (hb.mono hsz)
      clear hb ew1 ew2 ed ew3
      by_cases hle : mid ≤ M
      · rw [(HI.out mid (by omega)).2 hle]
        go_wp2
        go_roundw
        case rel => exact ⟨mid, hi, rfl, rfl, by omega, hle, h2, h3, x3, HB⟩
        case measure => simp [intOf]; omega
      · have hrf : readyB xs L T ys mid = false := by
          cases hr : readyB xs L T ys mid
          · rfl
          · exact absurd ((HI.out mid (by omega)).1 hr) hle
        rw [hrf]
        clear hrf
        have ew4 : IntKind.i64.wrap (mid - 1) = mid - 1 := IntWalk.i64_in _ (by omega)
        go_wp2
        go_roundw
        case rel => exact ⟨lo, mid - 1, rfl, by go_num, h0, h1, by omega, by omega, x3, HB⟩
        case measure => simp [intOf]; omega
    · obtain rfl : lo = M := by omega
      go_wp2
      go_ret2
      exact ⟨by rw [H.out, HM.out]; rfl, HB⟩
/-- What DepthLeft tells. -/
noncomputable def depthB (xs : List DyePartR) (L T Y : Int) (ys : List Int) (y : Int) : Bool := bathB xs L T Y ys && inB y 1 50000
theorem depth_no {xs : List DyePartR} {L T Y : Int} {ys : List Int} {y : Int} (h : depthB xs L T Y ys y = false) : depthI xs L T Y ys y = 0 := by unfold depthI; rw [if_neg (by unfold depthB at h; rw [h]; decide)]
theorem depth_yes {xs : List DyePartR} {L T Y : Int} {ys : List Int} {y : Int} (h : depthB xs L T Y ys y = true) : depthI xs L T Y ys y = depthTo xs ys y 100 := by unfold depthI; rw [if_pos (by unfold depthB at h; exact h)]
end Go.Proofs.Ytjlidgeeehlkcaa
