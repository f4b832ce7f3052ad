/- The walks of the program's hasPeriodDown and PeriodDown. Condition: none. -/
import Derived.Test.YtehhidpmbbabeaaPerD
namespace Go.Proofs.Ytehhidpmbbabeaa
open Go.RowKit Go.Shelf

theorem Rd.recap {w : World} {B b off n c c' : Nat} {xs : List Int} (h : Rd w B (some ⟨b, off, none⟩) n c xs) (h1 : n ≤ c') (h2 : c' ≤ maxLen) : Rd w B (some ⟨b, off, none⟩) n c' xs := ⟨h.len, h1, h2, h.cells, h.fits, fun e => by cases e⟩
def rowsK (m k : Nat) (xs : List Int) : List (List Int) := (List.range k).map fun r => rowL m r xs
theorem rowsK_get {m k j : Nat} {xs : List Int} : (rowsK m k xs)[j]? = if j < k then some (rowL m j xs) else none := by
  unfold rowsK
  by_cases h : j < k
  · rw [if_pos h, List.getElem?_map, List.getElem?_range h]; rfl
  · rw [if_neg h, List.getElem?_eq_none (by simp; omega)]
theorem chunkL_get {b off m k j : Nat} : (chunkL b off m k)[j]? = if j < k then some (chunkAt b off m j) else none := by
  unfold chunkL
  by_cases h : j < k
  · rw [if_pos h, List.getElem?_map, List.getElem?_range h]; rfl
  · rw [if_neg h, List.getElem?_eq_none (by simp; omega)]
theorem seen_rows {w : World} {B b off m k cc : Nat} {xs : List Int} (R : Rd w B (some ⟨b, off, none⟩) xs.length cc xs) (hl : xs.length = m * k) (m1 : 1 ≤ m) (m8 : m ≤ 8) : SeenS w B (chunkL b off m k) (rowsK m k xs) := by
  refine ⟨by simp [chunkL, rowsK], fun j s ys h1 h2 => ?_⟩
  rw [chunkL_get] at h1
  rw [rowsK_get] at h2
  by_cases hj : j < k
  · rw [if_pos hj] at h1 h2
    injection h1 with h1
    injection h2 with h2
    subst h1 h2
    have hrl := rowL_len (r := j) hl hj
    exact ⟨hrl.symm, by rw [hrl]; exact m1, (R.row hl hj).recap (Nat.le_refl _) (Nat.le_trans m8 (by unfold maxLen; decide))⟩
  · rw [if_neg hj] at h1; cases h1
theorem rows_period {m k p : Nat} {xs : List Int} (hl : xs.length = m * k) (hp : p ≤ k) : decide ((rowsK m k xs).drop p = (rowsK m k xs).take (k - p)) = downB m k xs p := by
  rw [Bool.eq_iff_iff, decide_eq_true_eq, down_iff]
  constructor
  · intro h i j hi hj
    have e : ((rowsK m k xs).drop p)[i]? = ((rowsK m k xs).take (k - p))[i]? := by rw [h]
    rw [List.getElem?_drop, List.getElem?_take, if_pos (by omega), rowsK_get, rowsK_get, if_pos (by omega), if_pos (by omega)] at e
    injection e with e
    have e2 : (rowL m (p + i) xs).getD j 0 = (rowL m i xs).getD j 0 := by rw [e]
    rw [rowL_get hj, rowL_get hj] at e2
    unfold elt
    rw [← e2, Nat.add_comm p i]
  · intro h
    refine List.ext_getElem? fun t => ?_
    rw [List.getElem?_drop, List.getElem?_take]
    by_cases ht : t < k - p
    · rw [if_pos ht, rowsK_get, rowsK_get, if_pos (by omega), if_pos (by omega)]
      have h1 := rowL_len (r := p + t) hl (by omega)
      have h2 := rowL_len (r := t) hl (by omega)
      congr 1
      refine list_ext0 (by rw [h1, h2]) fun j hj => ?_
      rw [h1] at hj
      rw [rowL_get hj, rowL_get hj]
      have := h t j (by omega) hj
      unfold elt at this
      rw [this, Nat.add_comm p t]
    · rw [if_neg ht, rowsK_get, if_neg (by omega)]
set_option maxRecDepth 100000 in
set_option maxHeartbeats 4000000 in
theorem hasPeriodDown_eq (m k b off cc B p : Nat) (xs : List Int) (w : World) (hR : Rd w B (some ⟨b, off, none⟩) xs.length cc xs) (hB : B ≤ w.heap.size) (m1 : 1 ≤ m) (m8 : m ≤ 8) (k8 : k ≤ 8) (hl : Hid (xs.length = m * k)) (hp : p < k) (d : Bool) (hd : downB m k xs p = d) :
    Calls Try.prog 63 #[chartV m k (.slice (some ⟨b, off, none⟩) xs.length cc), .int .i64 p] w (Out w (.bool d)) := by
  have hb0 := Lib.hid ((Below.refl w.heap.size w).alloc (Nat.le_refl _) (.cells #[.int .i64 m, .int .i64 k, .slice (some ⟨b, off, none⟩) xs.length cc] 26))
  have hz0 : w.heap.size ≤ (w.alloc (.cells #[.int .i64 m, .int .i64 k, .slice (some ⟨b, off, none⟩) xs.length cc] 26)).heap.size := by simp
  have R0 := Lib.hid (hR.alloc hB (.cells #[.int .i64 m, .int .i64 k, .slice (some ⟨b, off, none⟩) xs.length cc] 26))
  have x0 := Blk.new w #[.int .i64 m, .int .i64 k, .slice (some ⟨b, off, none⟩) xs.length cc] 26
  have hcap := hR.cap
  have HD := Lib.hid hd
  have hN : Hid (xs.length = k * m) := Lib.hid (by rw [hl.out, Nat.mul_comm])
  have e0 := x0.cell 0
  have e2 := x0.cell 2
  clear hR hd
  go_enter Try.func63, Try.ntmps63
  go_wp2_with fail
  refine (callsIn_wide.1 (chunk_in Fence.wide 3 trivial rfl (some ⟨b, off, none⟩) xs.length cc m m1 _)).mono ?_
  rintro e w1 ⟨rfl, hw1⟩
  generalize hwc : w.alloc (.cells #[.int .i64 m, .int .i64 k, .slice (some ⟨b, off, none⟩) xs.length cc] 26) = wc at *
  have bS := (Blk.new wc #[.slice (some ⟨b, off, none⟩) xs.length cc] 22).alloc (.cells #[.int .i64 m] 3)
  have bM := Blk.new (wc.alloc (.cells #[.slice (some ⟨b, off, none⟩) xs.length cc] 22)) #[.int .i64 m] 3
  have hb1 := Lib.hid (((Below.refl wc.heap.size wc).alloc (Nat.le_refl _) (.cells #[.slice (some ⟨b, off, none⟩) xs.length cc] 22)).alloc (by simp) (.cells #[.int .i64 m] 3))
  have hzw : wc.heap.size + 1 < ((wc.alloc (.cells #[.slice (some ⟨b, off, none⟩) xs.length cc] 22)).alloc (.cells #[.int .i64 m] 3)).heap.size := by simp
  rw [World.size_alloc] at bM
  rw [← hw1] at bS bM hb1 hzw
  have R1 := Lib.hid (R0.out.all hb1.out (Nat.le_trans hB hz0))
  have HB1 := Lib.hid (hb0.out.trans (hb1.out.mono hz0))
  have hz1 := HB1.out.size
  have hBc : B ≤ wc.heap.size := Nat.le_trans hB hz0
  have hz1c : wc.heap.size ≤ w1.heap.size := hb1.out.size
  clear e0 e2 x0 hb0 R0 hb1 hw1 hwc
  go_wp2_with fail
  refine (collect_any wc.heap.size b off xs.length cc m k m1 m8 k8 hN hcap w1 hzw bS bM).mono ?_
  rintro e w2 ⟨A2, c2, rfl, ho, hb2⟩
  have R2 := Lib.hid (R1.out.all hb2 (Nat.le_trans hBc hz1c))
  have HB2 := Lib.hid (HB1.out.trans (hb2.mono hz1))
  obtain ⟨g, rfl, _, _⟩ := ho.some_ (by rw [chunkL_len]; omega)
  have hRF := ho.rd
  have HSS := Lib.hid (seen_rows R2.out hl.out m1 m8)
  have HP := Lib.hid ((rows_period hl.out (Nat.le_of_lt hp)).trans HD.out)
  clear bS bM R1 HB1 hb2 ho
  go_wp2_with fail
  refine (hasPeriodS_eq g 0 k c2 w2.heap.size B p _ _ w2 hRF HSS hp d HP.out).mono ?_
  rintro e w3 ⟨rfl, hb3⟩
  have HB3 := Lib.hid (HB2.out.trans (hb3.mono HB2.out.size))
  go_wp2
  go_ret
  exact ⟨rfl, HB3.out⟩
set_option maxRecDepth 100000 in
set_option maxHeartbeats 1000000 in
theorem fitsD_eq (m k b off cc B q q0 : Nat) (xs : List Int) (w : World) (hx : Blk w q0 26 #[.int .i64 m, .int .i64 k, .slice (some ⟨b, off, none⟩) xs.length cc]) (hR : Rd w B (some ⟨b, off, none⟩) xs.length cc xs) (hB : B ≤ w.heap.size) (m1 : 1 ≤ m) (m8 : m ≤ 8) (k8 : k ≤ 8) (hl : Hid (xs.length = m * k)) (hq : q < k) :
    Calls Try.prog 62 #[.int .i64 q, .pointer (some ⟨q0, 0, none⟩)] w (Out w (.bool (downB m k xs q))) := by
  have e0 := hx.cell 0
  have e1 := hx.cell 1
  have e2 := hx.cell 2
  have hb0 := Lib.hid (Below.refl w.heap.size w)
  clear hx
  go_enter Try.func62, Try.ntmps62
  go_wp2_with fail
  refine (hasPeriodDown_eq m k b off cc B q xs w hR hB m1 m8 k8 hl hq _ rfl).mono ?_
  rintro e w2 ⟨rfl, hb2⟩
  clear e0 e1 e2
  go_wp2
  go_ret
  exact ⟨rfl, hb2⟩
set_option maxRecDepth 100000 in
set_option maxHeartbeats 2000000 in
theorem smallestD_any (most q0 : Nat) (w : World) (g : Nat → Bool) (h1 : 1 ≤ most) (h8 : most ≤ 8)
    (hp : Hid (∀ (W : World) (q : Nat), 1 ≤ q → q < most → Below w.heap.size w W → Calls Try.prog 62 #[.int .i64 q, .pointer (some ⟨q0, 0, none⟩)] W (Out W (.bool (g q))))) :
    Calls Try.prog 58 #[.int .i64 most, .func (.func 62) #[] #[.pointer (some ⟨q0, 0, none⟩)]] w (Out w (.int .i64 (firstP g (most - 1) 1))) := by
  have hb0 := Lib.hid (Below.refl w.heap.size w)
  obtain ⟨R, HR⟩ : ∃ R, Hid (firstP g (most - 1) 1 = R) := ⟨_, rfl⟩
  rw [HR.out]
  go_enter Try.func58, Try.ntmps58
  go_wp2
  go_loopw [5] (fun s5 wr => ∃ n : Nat, 1 ≤ n ∧ n ≤ most ∧ s5 = .int .i64 n ∧ Hid (firstP g (most - n) n = R) ∧ Hid (Below w.heap.size w wr)) (fun s5 _ => most - (intOf s5).toNat)
  case atStart => exact ⟨1, Nat.le_refl _, h1, rfl, HR, hb0⟩
  case round =>
    clear HR hb0
    obtain ⟨n, hn1, hnm, rfl, HR, HB⟩ := hrel
    have hwz := HB.out.size
    by_cases hlt : n < most
    · have hlt' : (n : Int) < (most : Int) := by omega
      have hcall := Lib.hid (hp.out wr n hn1 hlt HB.out)
      have hyes := Lib.hid (fun hh : g n = true => (firstP_yes (n := most - n) hh).symm.trans HR.out)
      have hno := Lib.hid (fun hh : g n = false => (show firstP g (most - (n + 1)) (n + 1) = R by
        have e : most - n = (most - (n + 1)) + 1 := by omega
        rw [← HR.out, e, firstP_no hh]))
      cases hq : g n with
      | true =>
        rw [hq] at hcall
        have HE := Lib.hid (hyes.out hq)
        clear hyes hno hq
        go_wp2_with (go_at_call 62; refine hcall.out.mono ?_; rintro e w2 ⟨rfl, hb2⟩)
        go_ret
        exact ⟨ret_int (by rw [← HE.out]), HB.out.trans (hb2.mono hwz)⟩
      | false =>
        rw [hq] at hcall
        have HE := Lib.hid (hno.out hq)
        clear hyes hno hq
        go_wp2_with (go_at_call 62; refine hcall.out.mono ?_; rintro e w2 ⟨rfl, hb2⟩)
        have HB2 := Lib.hid (HB.out.trans (hb2.mono hwz))
        go_roundw
        case rel => exact ⟨n + 1, by omega, by omega, by go_num, HE, HB2⟩
        case measure => simp [intOf]; omega
    · obtain rfl : n = most := by omega
      have HE := Lib.hid (show n = R by rw [← HR.out, Nat.sub_self]; rfl)
      go_wp2
      go_ret
      exact ⟨ret_int (by rw [← HE.out]), HB.out⟩
set_option maxRecDepth 100000 in
set_option maxHeartbeats 2000000 in
theorem implPeriodDown_any (W H : Int) (A : Option Addr) (n c B : Nat) (xs : List Int) (w : World) (hR : Rd w B A n c xs) (hB : B ≤ w.heap.size) :
    Calls Try.prog 26 #[chartV W H (.slice A n c)] w (Out w (.tuple #[.int .i64 (perDN W H xs), .bool (goodB W H xs)])) := by
  have hb0 := Lib.hid ((Below.refl w.heap.size w).alloc (Nat.le_refl _) (.cells #[.int .i64 W, .int .i64 H, .slice A n c] 26))
  have h' := Lib.hid (hR.alloc hB (.cells #[.int .i64 W, .int .i64 H, .slice A n c] 26))
  have x0 := Blk.new w #[.int .i64 W, .int .i64 H, .slice A n c] 26
  by_cases hg : goodB W H xs = true
  · have hv : perDN W H xs = _ := if_pos hg
    rw [hv, hg]
    clear hv
    obtain ⟨m, k, rfl, rfl, m1, m8, k1, k8, hl, h64, hl1, _⟩ := good_nat hg
    simp only [Int.toNat_natCast]
    obtain rfl := hR.len
    obtain ⟨b, off, rfl, _, _⟩ := hR.cells (by omega)
    clear hR
    go_enter Try.func26, Try.ntmps26
    go_wp2_with fail
    refine (implIsChart_any m k _ _ c B xs _ h'.out (by simp; omega)).mono ?_
    rintro e w1 ⟨rfl, hb⟩
    have x1 := x0.all hb
    have R1 := h'.out.all hb (by simp; omega)
    have HB := Lib.hid (hb0.out.trans (hb.mono (by simp)))
    have hz1 : w.heap.size ≤ w1.heap.size := HB.out.size
    have hxl := x1.lt
    rw [hg]
    clear hb x0 h' hb0 hg
    have e0 := x1.cell 1
    have hp := Lib.hid (show ∀ (W : World) (q : Nat), 1 ≤ q → q < k → Below w1.heap.size w1 W → Calls Try.prog 62 #[.int .i64 q, .pointer (some ⟨w.heap.size, 0, none⟩)] W (Out W (.bool (downB m k xs q))) from fun W q _ hqm hbW =>
      fitsD_eq m k b off c B q w.heap.size xs W (x1.all hbW) (R1.all hbW (Nat.le_trans hB hz1)) (Nat.le_trans (Nat.le_trans hB hz1) hbW.size) m1 m8 k8 hl hqm)
    have hRR := Lib.hid (show firstP (downB m k xs) (k - 1) 1 = perD m k xs from rfl)
    go_wp2_with fail
    refine (smallestD_any k w.heap.size w1 (downB m k xs) k1 k8 hp).mono ?_
    rintro e w2 ⟨rfl, hb2⟩
    have HB2 := Lib.hid (HB.out.trans (hb2.mono hz1))
    clear e0 hp hRR x1 R1 HB hb2
    go_wp2
    go_ret2
    exact ⟨rfl, HB2.out⟩
  · have hn0 := not_false hg
    have hv : perDN W H xs = 0 := if_neg hg
    have HV := Lib.hid hv
    have HG := Lib.hid hn0
    clear hv
    go_enter Try.func26, Try.ntmps26
    go_wp2_with fail
    refine (implIsChart_any W H A n c B xs _ h'.out (by simp; omega)).mono ?_
    rintro e w1 ⟨rfl, hb⟩
    have HB := Lib.hid (hb0.out.trans (hb.mono (by simp)))
    rw [hn0]
    clear hb x0 hg hn0
    go_wp2
    go_ret2
    exact ⟨ret_ib6 HV.out.symm HG.out.symm, HB.out⟩
end Go.Proofs.Ytehhidpmbbabeaa
