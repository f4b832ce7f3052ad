/- The walks of IsReady and MostYarn, both texts. No condition. -/
import Derived.Test.YtjlidgeeehlkcaaReady
namespace Go.Proofs.Ytjlidgeeehlkcaa
open Go.RowKit

/-- What IsReady tells. -/
noncomputable def isReady1 (xs : List DyePartR) (L T Y : Int) (ys : List Int) : Bool := bathB xs L T Y ys && readyB xs L T ys Y
theorem isReady1_no {xs : List DyePartR} {L T Y : Int} {ys : List Int} (h : bathB xs L T Y ys = false) : isReady1 xs L T Y ys = false := by unfold isReady1; rw [h]; rfl
theorem isReady1_yes {xs : List DyePartR} {L T Y : Int} {ys : List Int} (h : bathB xs L T Y ys = true) : isReady1 xs L T Y ys = readyB xs L T ys Y := by unfold isReady1; rw [h]; rfl
set_option maxRecDepth 100000 in
set_option maxHeartbeats 1000000 in
theorem implIsReady_any (A : Option Addr) (n c B : Nat) (xs : List DyePartR) (L T Y : Int) (A' : Option Addr) (n' c' B' : Nat) (ys : List Int) (w : World) (h : RdF dyePartF w B A n c xs) (hB : B ≤ w.heap.size) (h' : Rd w B' A' n' c' ys) (hB' : B' ≤ w.heap.size) :
    Calls Try.prog 9 #[.slice A n c, bathV L T Y (.slice A' n' c')] w (Out w (.tuple #[.bool (isReady1 xs L T Y ys), .bool (bathB xs L T Y ys)])) := by
  have HB : Below w.heap.size w (w.alloc (.cells #[.int .i64 L, .int .i64 T, .int .i64 Y, .slice A' n' c'] 27)) := (Below.refl _ _).alloc (Nat.le_refl _) _
  have x3 := Blk.new w #[.int .i64 L, .int .i64 T, .int .i64 Y, .slice A' n' c'] 27
  have hR1 := h.alloc hB (.cells #[.int .i64 L, .int .i64 T, .int .i64 Y, .slice A' n' c'] 27)
  have hR2 := h'.alloc hB' (.cells #[.int .i64 L, .int .i64 T, .int .i64 Y, .slice A' n' c'] 27)
  have hsz := HB.size
  have hz3 := x3.lt
  have e0 := x3.cell 0
  have e1 := x3.cell 1
  have e2 := x3.cell 2
  have e3 := x3.cell 3
  go_enter Try.func9, Try.ntmps9
  go_wp2_with fail
  generalize w.alloc (.cells #[.int .i64 L, .int .i64 T, .int .i64 Y, .slice A' n' c'] 27) = W1 at *
  refine (implIsBath_any A n c B xs L T Y A' n' c' B' ys _ hR1 (by omega) hR2 (by omega)).mono ?_
  rintro e w2 ⟨rfl, hb⟩
  clear e0 e1 e2 e3
  replace x3 := x3.all hb
  replace hR1 := hR1.all hb (by omega)
  replace hR2 := hR2.all hb (by omega)
  replace HB := HB.trans (hb.mono hsz)
  replace hsz := HB.size
  replace hz3 := x3.lt
  clear hb
  have e0 := x3.cell 0
  have e1 := x3.cell 1
  have e2 := x3.cell 2
  have e3 := x3.cell 3
  cases hg : bathB xs L T Y ys
  case false =>
    have H := Lib.hid (isReady1_no hg)
    have HG := Lib.hid hg
    clear hg
    go_wp2
    go_ret2
    exact ⟨by rw [H.out, HG.out]; rfl, HB⟩
  have H := Lib.hid (isReady1_yes hg)
  obtain ⟨_, _, _, _, _, hY0, hY1⟩ := bath_of hg
  have HT := Lib.hid hg
  clear hg
  go_wp2_with fail
  refine (isReadyBath_any A n c B xs L T Y A' n' c' B' ys _ hR1 (by omega) hR2 (by omega) HT.out).mono ?_
  rintro e w3 ⟨rfl, hb⟩
  replace HB := HB.trans (hb.mono hsz)
  clear hb
  go_wp2
  go_ret2
  exact ⟨by rw [H.out, HT.out]; rfl, HB⟩
set_option maxRecDepth 100000 in
set_option maxHeartbeats 1000000 in
theorem specIsReady_any (A : Option Addr) (n c B : Nat) (xs : List DyePartR) (L T Y : Int) (A' : Option Addr) (n' c' B' : Nat) (ys : List Int) (w : World) (h : RdF dyePartF w B A n c xs) (hB : B ≤ w.heap.size) (h' : Rd w B' A' n' c' ys) (hB' : B' ≤ w.heap.size) :
    Calls Try.prog 10 #[.slice A n c, bathV L T Y (.slice A' n' c')] w (Out w (.tuple #[.bool (isReady1 xs L T Y ys), .bool (bathB xs L T Y ys)])) := by
  have HB : Below w.heap.size w (w.alloc (.cells #[.int .i64 L, .int .i64 T, .int .i64 Y, .slice A' n' c'] 27)) := (Below.refl _ _).alloc (Nat.le_refl _) _
  have x3 := Blk.new w #[.int .i64 L, .int .i64 T, .int .i64 Y, .slice A' n' c'] 27
  have hR1 := h.alloc hB (.cells #[.int .i64 L, .int .i64 T, .int .i64 Y, .slice A' n' c'] 27)
  have hR2 := h'.alloc hB' (.cells #[.int .i64 L, .int .i64 T, .int .i64 Y, .slice A' n' c'] 27)
  have hsz := HB.size
  have hz3 := x3.lt
  have e0 := x3.cell 0
  have e1 := x3.cell 1
  have e2 := x3.cell 2
  have e3 := x3.cell 3
  go_enter Try.func10, Try.ntmps10
  go_wp2_with fail
  generalize w.alloc (.cells #[.int .i64 L, .int .i64 T, .int .i64 Y, .slice A' n' c'] 27) = W1 at *
  refine (l7Bath_any A n c B xs L T Y A' n' c' B' ys _ hR1 (by omega) hR2 (by omega)).mono ?_
  rintro e w2 ⟨rfl, hb⟩
  clear e0 e1 e2 e3
  replace x3 := x3.all hb
  replace hR1 := hR1.all hb (by omega)
  replace hR2 := hR2.all hb (by omega)
  replace HB := HB.trans (hb.mono hsz)
  replace hsz := HB.size
  replace hz3 := x3.lt
  clear hb
  have e0 := x3.cell 0
  have e1 := x3.cell 1
  have e2 := x3.cell 2
  have e3 := x3.cell 3
  cases hg : bathB xs L T Y ys
  case false =>
    have H := Lib.hid (isReady1_no hg)
    have HG := Lib.hid hg
    clear hg
    go_wp2
    go_ret2
    exact ⟨by rw [H.out, HG.out]; rfl, HB⟩
  have H := Lib.hid (isReady1_yes hg)
  obtain ⟨_, _, _, _, _, hY0, hY1⟩ := bath_of hg
  have HT := Lib.hid hg
  clear hg
  go_wp2_with fail
  refine (l7Ready_any A n c B xs L T Y A' n' c' B' ys Y _ hR1 (by omega) hR2 (by omega) HT.out hY0 hY1).mono ?_
  rintro e w3 ⟨rfl, hb⟩
  replace HB := HB.trans (hb.mono hsz)
  clear hb
  go_wp2
  go_ret2
  exact ⟨by rw [H.out, HT.out]; rfl, HB⟩
/-- What MostYarn tells. -/
noncomputable def mostB (xs : List DyePartR) (L T Y : Int) (ys : List Int) : Bool := bathB xs L T Y ys && inB T 60 95
noncomputable def mostV (xs : List DyePartR) (L T Y : Int) (ys : List Int) : Int := if mostB xs L T Y ys = true then mostY xs L ys else 0
theorem mostV_no {xs : List DyePartR} {L T Y : Int} {ys : List Int} (h : mostB xs L T Y ys = false) : mostV xs L T Y ys = 0 := by unfold mostV; rw [if_neg (by rw [h]; decide)]
theorem mostV_yes {xs : List DyePartR} {L T Y : Int} {ys : List Int} (h : mostB xs L T Y ys = true) : mostV xs L T Y ys = mostY xs L ys := by unfold mostV; rw [if_pos h]
theorem ready_zero {xs : List DyePartR} {L T Y : Int} {ys : List Int} (h : bathB xs L T Y ys = true) : readyB xs L T ys 0 = inB T 60 95 := by
  obtain ⟨h1, h2, h3, h4, h5, h6⟩ := bath_of h
  have e : enoughB xs ys 0 = true := enoughB_yes fun i p s _ _ hs => by
    have := grams_at h3 hs
    unfold needI
    omega
  unfold readyB waterB
  rw [e, decide_eq_true (by omega)]
  rfl
set_option maxRecDepth 100000 in
set_option maxHeartbeats 4000000 in
theorem implMostYarn_any (A : Option Addr) (n c B : Nat) (xs : List DyePartR) (L T Y : Int) (A' : Option Addr) (n' c' B' : Nat) (ys : List Int) (w : World) (h : RdF dyePartF w B A n c xs) (hB : B ≤ w.heap.size) (h' : Rd w B' A' n' c' ys) (hB' : B' ≤ w.heap.size) :
    Calls Try.prog 12 #[.slice A n c, bathV L T Y (.slice A' n' c')] w (Out w (.tuple #[.int .i64 (mostV xs L T Y ys), .bool (mostB xs L T Y ys)])) := by
  have HLen := Lib.hid h'.len
  obtain rfl := h.len
  have HB : Below w.heap.size w (w.alloc (.cells #[.int .i64 L, .int .i64 T, .int .i64 Y, .slice A' n' c'] 27)) := (Below.refl _ _).alloc (Nat.le_refl _) _
  have x3 := Blk.new w #[.int .i64 L, .int .i64 T, .int .i64 Y, .slice A' n' c'] 27
  have hR1 := h.alloc hB (.cells #[.int .i64 L, .int .i64 T, .int .i64 Y, .slice A' n' c'] 27)
  have hR2 := h'.alloc hB' (.cells #[.int .i64 L, .int .i64 T, .int .i64 Y, .slice A' n' c'] 27)
  have hsz := HB.size
  have hz3 := x3.lt
  have e0 := x3.cell 0
  have e1 := x3.cell 1
  have e2 := x3.cell 2
  have e3 := x3.cell 3
  go_enter Try.func12, Try.ntmps12
  go_wp2_with fail
  generalize w.alloc (.cells #[.int .i64 L, .int .i64 T, .int .i64 Y, .slice A' n' c'] 27) = W1 at *
  refine (implIsBath_any A _ c B xs L T Y A' n' c' B' ys _ hR1 (by omega) hR2 (by omega)).mono ?_
  rintro e w2 ⟨rfl, hb⟩
  clear e0 e1 e2 e3
  replace x3 := x3.all hb
  replace hR1 := hR1.all hb (by omega)
  replace hR2 := hR2.all hb (by omega)
  replace HB := HB.trans (hb.mono hsz)
  replace hsz := HB.size
  replace hz3 := x3.lt
  clear hb
  have e0 := x3.cell 0
  have e1 := x3.cell 1
  have e2 := x3.cell 2
  have e3 := x3.cell 3
  cases hg : bathB xs L T Y ys
  case false =>
    have hm : mostB xs L T Y ys = false := by unfold mostB; rw [hg]; rfl
    have H := Lib.hid (mostV_no hm)
    have HM := Lib.hid hm
    clear hm
    go_wp2
    go_ret2
    exact ⟨by rw [H.out, HM.out]; rfl, HB⟩
  cases hT : inB T 60 95
  case false =>
    have hm : mostB xs L T Y ys = false := by unfold mostB; rw [hT, Bool.and_false]
    have H := Lib.hid (mostV_no hm)
    have HM := Lib.hid hm
    clear hm
    go_wp2_with ((go_at_call 30; (with_reducible refine (isReadyHeat_any _ _).mono ?_); rintro e w' ⟨rfl, rfl⟩))
    go_ret2
    exact ⟨by rw [H.out, HM.out]; rfl, HB⟩
  have hm : mostB xs L T Y ys = true := by unfold mostB; rw [hT, hg]; rfl
  have H := Lib.hid (mostV_yes hm)
  have HM := Lib.hid hm
  clear hm
  obtain ⟨hr, hle, hgr, ⟨hL0, hL1⟩, ⟨hT0, hT1⟩, hY0, hY1⟩ := bath_of hg
  have hn6 := rec_len hr
  obtain rfl : n' = xs.length := by rw [← HLen.out, hle]
  have HGR := Lib.hid hgr
  have HR := Lib.hid hr
  have HG := Lib.hid hg
  clear hle hgr hr hg
  obtain ⟨m0, hm0⟩ : ∃ m0, L / 20 * 1000 = m0 := ⟨_, rfl⟩
  have hm1 : 0 ≤ m0 := by omega
  have hm2 : m0 ≤ 25000 := by omega
  have hlt0 : ¬ 50000 < m0 := by omega
  have HS := Lib.hid (show mostY xs L ys = mostTo xs ys m0 by unfold mostY; rw [hm0, Int.min_eq_left (by omega)])
  have et : Int.tdiv L 20 = L / 20 := Int.tdiv_eq_ediv_of_nonneg (by omega)
  have ew : IntKind.i64.wrap (L / 20 * 1000) = m0 := by rw [hm0]; exact IntWalk.i64_in _ (by omega)
  have ew2 : IntKind.i64.wrap (L / 20) = L / 20 := IntWalk.i64_in _ (by omega)
  have emin : min m0 50000 = m0 := Int.min_eq_left (by omega)
  go_wp2_with ((go_at_call 30; (with_reducible refine (isReadyHeat_any _ _).mono ?_); rintro e w' ⟨rfl, rfl⟩))
  clear e0 e1 e2 e3 et ew ew2 hT emin
  go_loopw [26, 6] (fun i r wr => ∃ (k : Nat) (m : Int), k ≤ xs.length ∧ i = .int .i64 k ∧ r = .int .i64 m ∧ m = mostTo (xs.take k) (ys.take k) m0 ∧ 0 ≤ m ∧ m ≤ 50000 ∧ Blk wr w.heap.size 27 #[.int .i64 L, .int .i64 T, .int .i64 Y, .slice A' xs.length c'] ∧ Below w.heap.size w wr) (fun i _ _ => xs.length - (intOf i).toNat)
  case atStart => exact ⟨0, m0, Nat.zero_le _, rfl, rfl, (mostTo_zero _ _ _).symm, hm1, by omega, x3, HB⟩
  case round =>
    clear x3 hR1 hR2 HB hsz hz3
    obtain ⟨k, m, hk, rfl, rfl, hme, hma, hmb, x3, HB⟩ := hrel
    have HE := Lib.hid hme
    clear hme
    by_cases hlt : k < xs.length
    · have hR1 := h.all HB hB
      have hR2 := h'.all HB hB'
      have hsz := HB.size
      have hz3 := x3.lt
      obtain ⟨b', off', s, rfl, hbB', hc, _, _, HX⟩ := hR2.at hlt
      have HX' := Lib.hid (get_at (xs := ys) (by rw [HLen.out]; exact hlt) HX.out)
      obtain ⟨b, off, a, rfl, hbB, _, HA, hc0, hc1⟩ := DyePartR_at (F := dyePartF) rfl (fun _ => rfl) (fun _ => rfl) hR1 hlt
      obtain ⟨_, hp0, hp1⟩ := part_at HR.out HA.out
      obtain ⟨hs0, hs1⟩ := grams_at HGR.out HX'.out
      have hki : (0 : Int) ≤ (k : Int) := by omega
      have hkn : (k : Int) < (xs.length : Int) := by omega
      obtain ⟨q, hq⟩ : ∃ q, s * 1000 / a.f1 = q := ⟨_, rfl⟩
      have hq0 : 0 ≤ q := by rw [← hq]; exact Int.ediv_nonneg (by omega) (by omega)
      have hq1 : q ≤ 50000000 := by have := Int.ediv_le_self a.f1 (show 0 ≤ s * 1000 by omega); rw [← hq]; omega
      have ST := Lib.hid (mostTo_step xs ys m0 k a s HA.out HX'.out)
      have ew : IntKind.i64.wrap (s * 1000) = s * 1000 := IntWalk.i64_in _ (by omega)
      have ed : Int.tdiv (s * 1000) a.f1 = q := by rw [← hq]; exact Int.tdiv_eq_ediv_of_nonneg (by omega)
      have eq' : IntKind.i64.wrap q = q := IntWalk.i64_in _ (by omega)
      have hnz : ¬ (a.f1 = 0) := by omega
      have x8 := Blk.new wr #[.string a.f0, .int .i64 a.f1] 43
      have HBA := HB.alloc hsz (.cells #[.string a.f0, .int .i64 a.f1] 43)
      have x3A := x3.alloc (.cells #[.string a.f0, .int .i64 a.f1] 43)
      have hcA := (hR2.alloc (by omega) (.cells #[.string a.f0, .int .i64 a.f1] 43))
      have hcB : (wr.alloc (.cells #[.string a.f0, .int .i64 a.f1] 43)).cell? ⟨b', off' + k, none⟩ = some (.int .i64 s) := (World.cell?_alloc_lt wr _ ⟨b', _, none⟩ (by show b' < _; omega)).trans hc
      go_wp2_with fail
      clear hc hc0 hc1 x3 HB hcA hR1 hR2
      generalize wr.alloc (.cells #[.string a.f0, .int .i64 a.f1] 43) = W4 at *
      generalize wr.heap.size = P at *
      have e3 := x3A.cell 3
      have e81 := x8.cell 1
      rcases Int.lt_or_le q m with hqm | hqm
      · have emin : min m q = q := Int.min_eq_right (by omega)
        go_region
        all_goals
          go_wp2
          go_roundw
          case rel => exact ⟨k + 1, q, by omega, by go_num, by go_num, by rw [ST.out, ← HE.out, hq, emin], hq0, by omega, x3A, by repeat (first | assumption | exact Below.refl _ _ | refine belowN ?_ _ | refine belowD ?_ | (refine Below.setCell ?_ (by first | (simp; done) | (simp; omega) | omega) _) | (refine Below.alloc ?_ (by first | (simp; done) | (simp; omega) | omega) _))⟩
          case measure => simp [intOf]; omega
      · have emin : min m q = m := Int.min_eq_left (by omega)
        go_region
        all_goals
          go_wp2
          go_roundw
          case rel => exact ⟨k + 1, m, by omega, by go_num, by go_num, by rw [ST.out, ← HE.out, hq, emin], hma, hmb, x3A, by repeat (first | assumption | exact Below.refl _ _ | refine belowN ?_ _ | refine belowD ?_ | (refine Below.setCell ?_ (by first | (simp; done) | (simp; omega) | omega) _) | (refine Below.alloc ?_ (by first | (simp; done) | (simp; omega) | omega) _))⟩
          case measure => simp [intOf]; omega
    · have HF := Lib.hid (show mostV xs L T Y ys = m by rw [H.out, HS.out, HE.out, List.take_of_length_le (by omega), List.take_of_length_le (by rw [HLen.out]; omega)])
      go_wp2
      go_ret2
      exact ⟨by rw [HF.out, HM.out]; rfl, HB⟩
end Go.Proofs.Ytjlidgeeehlkcaa
