/- Several texts of this proof in one: PerD, PerJ, MotI. No condition. -/
import Derived.Test.YtpmhnklmhfadlaaCollect
import Derived.Test.YtpmhnklmhfadlaaShelf
import Derived.Test.YtpmhnklmhfadlaaMgMath
import Derived.Test.YtpmhnklmhfadlaaPart2
namespace Go.Proofs.Ytpmhnklmhfadlaa
open Go.RowKit

theorem drewN_2 (w : World) (a b : Nat) : (w.drewN a).drewN b = w.drewN (a + b) := by
  simp [World.drewN, Nat.add_assoc]
theorem SeenS.drewN {w : World} {B : Nat} {ss : List SlR} {yss : List (List Int)} (h : SeenS w B ss yss) (q : Nat) : SeenS (w.drewN q) B ss yss :=
  ⟨h.1, fun j s ys h1 h2 => ⟨(h.2 j s ys h1 h2).1, (h.2 j s ys h1 h2).2.1, (h.2 j s ys h1 h2).2.2.drewN q⟩⟩
theorem SeenS.cut {w : World} {B : Nat} {ss : List SlR} {yss : List (List Int)} (h : SeenS w B ss yss) (q : Nat) : SeenS w B (ss.drop q) (yss.drop q) :=
  ⟨by rw [List.length_drop, List.length_drop, h.1], fun j s ys h1 h2 => h.2 (q + j) s ys (by rw [← h1, List.getElem?_drop]) (by rw [← h2, List.getElem?_drop])⟩
theorem SeenS.head {w : World} {B : Nat} {ss : List SlR} {yss : List (List Int)} (h : SeenS w B ss yss) (q : Nat) : SeenS w B (ss.take q) (yss.take q) :=
  ⟨by rw [List.length_take, List.length_take, h.1], fun j s ys h1 h2 => by
    rw [List.getElem?_take] at h1 h2
    split at h1 <;> rename_i hj
    · rw [if_pos hj] at h2
      exact h.2 j s ys h1 h2
    · cases h1⟩
theorem equalD (b o n c b' o' n' c' B B' : Nat) (xs ys : List Int) (w : World) (h : Rd w B (some ⟨b, o, none⟩) n c xs) (h' : Rd w B' (some ⟨b', o', none⟩) n' c' ys) (hn : 1 ≤ n) (hn' : 1 ≤ n') (d : Bool) (hd : decide (xs = ys) = d) :
    Calls Try.prog 61 #[.slice (some ⟨b, o, none⟩) n c, .slice (some ⟨b', o', none⟩) n' c'] w fun e w' => e = .returned (.bool d) ∧ ∃ q, w' = w.drewN q := by
  subst hd
  obtain ⟨_, _, e, _, hc⟩ := h.cells (by omega)
  cases e
  obtain ⟨_, _, e, _, hc'⟩ := h'.cells (by omega)
  cases e
  obtain rfl := h.len
  obtain rfl := h'.len
  refine (Try.slices_Equal_int b o xs.length c b' o' ys.length c' xs ys w (Nat.le_refl _) (Nat.le_refl _) h.len_lt h'.len_lt hc hc').mono ?_
  rintro e w' ⟨rfl, q, rfl⟩
  refine ⟨ret_bool ?_, q, rfl⟩
  rw [List.take_of_length_le (Nat.le_refl _), List.take_of_length_le (Nat.le_refl _), Bool.eq_iff_iff]
  simp
set_option maxRecDepth 100000 in
set_option maxHeartbeats 2000000 in
theorem equalFuncS_eq (A A' : Option Addr) (n c c' B B' BS BS' : Nat) (ss ss' : List SlR) (yss yss' : List (List Int)) (w : World) (h : RdF sliF w B A n c ss) (h' : RdF sliF w B' A' n c' ss') (hS : SeenS w BS ss yss) (hS' : SeenS w BS' ss' yss') (d : Bool) (hd : decide (yss = yss') = d) :
    Calls Try.prog 86 #[.slice A n c, .slice A' n c', .func (.func 61) #[] #[]] w fun e w' => e = .returned (.bool d) ∧ ∃ q, w' = w.drewN q := by
  have hn := h.len_lt
  have HD := Lib.hid hd
  have hl := Lib.hid (show yss.length = n by rw [← hS.1]; exact h.len)
  have hl' := Lib.hid (show yss'.length = n by rw [← hS'.1]; exact h'.len)
  have HS1 := Lib.hid hS
  have HS2 := Lib.hid hS'
  clear hd hS hS'
  go_enter Try.func86, Try.ntmps86
  go_wp2
  go_loopw [17] (fun s17 wr => ∃ j : Nat, j ≤ n ∧ s17 = .int .i64 j ∧ Hid (∀ t, t < j → yss[t]? = yss'[t]?) ∧ Hid (∃ q, wr = w.drewN q)) (fun s17 _ => n - (intOf s17).toNat)
  case atStart => exact ⟨0, Nat.zero_le _, rfl, Lib.hid fun t ht => absurd ht (Nat.not_lt_zero _), Lib.hid ⟨0, rfl⟩⟩
  case round =>
    obtain ⟨j, hj, rfl, HS, HQ0⟩ := hrel
    obtain ⟨q0, hq0⟩ := HQ0.out
    have h1 : RdF sliF wr B A n c ss := by rw [hq0]; exact h.drewN q0
    have h1' : RdF sliF wr B' A' n c' ss' := by rw [hq0]; exact h'.drewN q0
    have HW := Lib.hid hq0
    have S1 := Lib.hid (show SeenS wr BS ss yss by rw [hq0]; exact HS1.out.drewN q0)
    have S2 := Lib.hid (show SeenS wr BS' ss' yss' by rw [hq0]; exact HS2.out.drewN q0)
    clear hq0 HQ0
    by_cases hlt : j < n
    · obtain ⟨b1, o1, s1, rfl, _, hx1, e1⟩ := Sl_at h1 hlt
      obtain ⟨b2, o2, s2, rfl, _, hx2, e2⟩ := Sl_at h1' hlt
      have hy1 : yss[j]? = some (yss[j]'(by rw [hl.out]; exact hlt)) := List.getElem?_eq_getElem _
      have hy2 : yss'[j]? = some (yss'[j]'(by rw [hl'.out]; exact hlt)) := List.getElem?_eq_getElem _
      generalize yss[j]'(by rw [hl.out]; exact hlt) = y1 at *
      generalize yss'[j]'(by rw [hl'.out]; exact hlt) = y2 at *
      obtain ⟨u1, u2, u3⟩ := S1.out.2 j s1 _ hx1.out hy1
      obtain ⟨v1, v2, v3⟩ := S2.out.2 j s2 _ hx2.out hy2
      obtain ⟨A1, n1, c1⟩ := s1
      obtain ⟨A2, n2, c2⟩ := s2
      simp only at u1 v1 u3 v3 e1 e2
      have hn1 : 1 ≤ n1 := by omega
      have hn2 : 1 ≤ n2 := by omega
      obtain ⟨g1, f1, hA1, _, _⟩ := u3.cells (by omega)
      obtain ⟨g2, f2, hA2, _, _⟩ := v3.cells (by omega)
      subst hA1 hA2
      have U3 := Lib.hid u3
      have V3 := Lib.hid v3
      have HY1 := Lib.hid hy1
      have HY2 := Lib.hid hy2
      clear u1 v1 u2 v2 u3 v3 hx1 hx2 hy1 hy2
      obtain ⟨q, HQ⟩ : ∃ q, Hid (decide (y1 = y2) = q) := ⟨_, rfl⟩
      cases q with
      | true =>
        have HN := Lib.hid (show ∀ t, t < j + 1 → yss[t]? = yss'[t]? from fun t ht => by
          by_cases e : t = j
          · subst e
            rw [HY1.out, HY2.out]
            have h5 := HQ.out
            rw [decide_eq_true_eq] at h5
            rw [h5]
          · exact HS.out t (by omega))
        go_wp2_with (go_at_call 61; refine (equalD g1 f1 n1 c1 g2 f2 n2 c2 _ _ y1 y2 _ U3.out V3.out hn1 hn2 true HQ.out).mono ?_; rintro e w2 ⟨rfl, q2, HW2⟩; replace HW2 := Lib.hid HW2)
        have HW3 := Lib.hid (show ∃ q, w2 = w.drewN q from ⟨q0 + q2, by rw [HW2.out, HW.out, drewN_2]⟩)
        go_roundw
        case rel => exact ⟨j + 1, by omega, by go_num, HN, HW3⟩
        case measure => simp [intOf]; omega
      | false =>
        have HN := Lib.hid (show d = false by
          rw [← HD.out, decide_eq_false_iff_not]
          intro e
          have h5 := HQ.out
          rw [decide_eq_false_iff_not] at h5
          apply h5
          have h6 := HY1.out
          rw [e, HY2.out] at h6
          injection h6 with h7
          exact h7.symm)
        go_wp2_with (go_at_call 61; refine (equalD g1 f1 n1 c1 g2 f2 n2 c2 _ _ y1 y2 _ U3.out V3.out hn1 hn2 false HQ.out).mono ?_; rintro e w2 ⟨rfl, q2, HW2⟩; replace HW2 := Lib.hid HW2)
        go_ret
        exact ⟨ret_bool HN.out.symm, q0 + q2, by rw [HW2.out, HW.out, drewN_2]⟩
    · obtain rfl : j = n := by omega
      have HN := Lib.hid (show d = true by
        rw [← HD.out, decide_eq_true_eq]
        refine List.ext_getElem? fun t => ?_
        by_cases ht : t < j
        · exact HS.out t ht
        · rw [List.getElem?_eq_none (by rw [hl.out]; omega), List.getElem?_eq_none (by rw [hl'.out]; omega)])
      go_wp2
      go_ret
      exact ⟨ret_bool HN.out.symm, q0, HW.out⟩
set_option maxRecDepth 100000 in
set_option maxHeartbeats 2000000 in
theorem hasPeriodS_eq (b off n c B BS p : Nat) (ss : List SlR) (yss : List (List Int)) (w : World) (h : RdF sliF w B (some ⟨b, off, none⟩) n c ss) (hS : Hid (SeenS w BS ss yss)) (hp : p < n) (d : Bool) (hd : decide (yss.drop p = yss.take (n - p)) = d) :
    Calls Try.prog 60 #[.slice (some ⟨b, off, none⟩) n c, .int .i64 p, .func (.func 61) #[] #[]] w (Out w (.bool d)) := by
  have hcap := h.cap
  have hmax := h.max
  have h1 := h.cut (q := p) (by omega)
  have h2 := h.head (q := n - p) (by omega)
  have k1 := Lib.hid (fun q => (hS.out.cut p).drewN q)
  have k2 := Lib.hid (fun q => (hS.out.head (n - p)).drewN q)
  unfold maxLen at hmax
  have hb0 := Lib.hid (Below.refl w.heap.size w)
  have hw1 : IntKind.i64.wrap ((n : Int) - (p : Int)) = (n : Int) - (p : Int) := IntWalk.i64_in _ (by omega)
  have htn : ((n : Int) - (p : Int)).toNat = n - p := by omega
  have hp0 : (0 : Int) ≤ (p : Int) := by omega
  have hpn : (p : Int) ≤ (n : Int) := by omega
  have hnp0 : (0 : Int) ≤ (n : Int) - (p : Int) := by omega
  have hnpc : (n : Int) - (p : Int) ≤ (c : Int) := by omega
  have hcp : ¬ c = p := by omega
  rw [if_neg hcp, show p * sliF.k = p from Nat.mul_one p] at h1
  have HD := Lib.hid hd
  clear h hd
  go_enter Try.func60, Try.ntmps60
  go_wp2
  go_quiet (first | (go_at_call 86; (with_reducible refine (equalFuncS_eq (some ⟨b, off + p, none⟩) (some ⟨b, off, none⟩) (n - p) (c - p) c B B BS BS (ss.drop p) (ss.take (n - p)) (yss.drop p) (yss.take (n - p)) _ (h1.drewN _) (h2.drewN _) (k1.out _) (k2.out _) d HD.out).mono ?_); rintro e wy ⟨rfl, qq, rfl⟩; first | exact ⟨rfl, _, drewN_2 _ _ _⟩ | exact ⟨rfl, _, rfl⟩))
  go_wp2
  go_ret
  exact ⟨rfl, by first | exact hb0.out | exact belowN hb0.out _⟩
end Go.Proofs.Ytpmhnklmhfadlaa
namespace Go.Proofs.Ytpmhnklmhfadlaa
open Go.RowKit Go.Shelf

theorem Rd.recap {w : World} {B b off n c c' : Nat} {xs : List Int} (h : Rd w B (some ⟨b, off, none⟩) n c xs) (h1 : n ≤ c') (h2 : c' ≤ maxLen) : Rd w B (some ⟨b, off, none⟩) n c' xs := ⟨h.len, h1, h2, h.cells, h.fits, fun e => by cases e⟩
def rowsK (m k : Nat) (xs : List Int) : List (List Int) := (List.range k).map fun r => rowL m r xs
theorem rowsK_get {m k j : Nat} {xs : List Int} : (rowsK m k xs)[j]? = if j < k then some (rowL m j xs) else none := by
  unfold rowsK
  by_cases h : j < k
  · rw [if_pos h, List.getElem?_map, List.getElem?_range h]; rfl
  · rw [if_neg h, List.getElem?_eq_none (by simp; omega)]
theorem chunkL_get {b off m k j : Nat} : (chunkL b off m k)[j]? = if j < k then some (chunkAt b off m j) else none := by
  unfold chunkL
  by_cases h : j < k
  · rw [if_pos h, List.getElem?_map, List.getElem?_range h]; rfl
  · rw [if_neg h, List.getElem?_eq_none (by simp; omega)]
theorem seen_rows {w : World} {B b off m k cc : Nat} {xs : List Int} (R : Rd w B (some ⟨b, off, none⟩) xs.length cc xs) (hl : xs.length = m * k) (m1 : 1 ≤ m) (m8 : m ≤ 8) : SeenS w B (chunkL b off m k) (rowsK m k xs) := by
  refine ⟨by simp [chunkL, rowsK], fun j s ys h1 h2 => ?_⟩
  rw [chunkL_get] at h1
  rw [rowsK_get] at h2
  by_cases hj : j < k
  · rw [if_pos hj] at h1 h2
    injection h1 with h1
    injection h2 with h2
    subst h1 h2
    have hrl := rowL_len (r := j) hl hj
    exact ⟨hrl.symm, by rw [hrl]; exact m1, (R.row hl hj).recap (Nat.le_refl _) (Nat.le_trans m8 (by unfold maxLen; decide))⟩
  · rw [if_neg hj] at h1; cases h1
theorem rows_period {m k p : Nat} {xs : List Int} (hl : xs.length = m * k) (hp : p ≤ k) : decide ((rowsK m k xs).drop p = (rowsK m k xs).take (k - p)) = downB m k xs p := by
  rw [Bool.eq_iff_iff, decide_eq_true_eq, down_iff]
  constructor
  · intro h i j hi hj
    have e : ((rowsK m k xs).drop p)[i]? = ((rowsK m k xs).take (k - p))[i]? := by rw [h]
    rw [List.getElem?_drop, List.getElem?_take, if_pos (by omega), rowsK_get, rowsK_get, if_pos (by omega), if_pos (by omega)] at e
    injection e with e
    have e2 : (rowL m (p + i) xs).getD j 0 = (rowL m i xs).getD j 0 := by rw [e]
    rw [rowL_get hj, rowL_get hj] at e2
    unfold elt
    rw [← e2, Nat.add_comm p i]
  · intro h
    refine List.ext_getElem? fun t => ?_
    rw [List.getElem?_drop, List.getElem?_take]
    by_cases ht : t < k - p
    · rw [if_pos ht, rowsK_get, rowsK_get, if_pos (by omega), if_pos (by omega)]
      have h1 := rowL_len (r := p + t) hl (by omega)
      have h2 := rowL_len (r := t) hl (by omega)
      congr 1
      refine list_ext0 (by rw [h1, h2]) fun j hj => ?_
      rw [h1] at hj
      rw [rowL_get hj, rowL_get hj]
      have := h t j (by omega) hj
      unfold elt at this
      rw [this, Nat.add_comm p t]
    · rw [if_neg ht, rowsK_get, if_neg (by omega)]
set_option maxRecDepth 100000 in
set_option maxHeartbeats 4000000 in
theorem hasPeriodDown_eq (m k b off cc B p : Nat) (xs : List Int) (w : World) (hR : Rd w B (some ⟨b, off, none⟩) xs.length cc xs) (hB : B ≤ w.heap.size) (m1 : 1 ≤ m) (m8 : m ≤ 8) (k8 : k ≤ 8) (hl : Hid (xs.length = m * k)) (hp : p < k) (d : Bool) (hd : downB m k xs p = d) :
    Calls Try.prog 28 #[chartV m k (.slice (some ⟨b, off, none⟩) xs.length cc), .int .i64 p] w (Out w (.bool d)) := by
  have hb0 := Lib.hid ((Below.refl w.heap.size w).alloc (Nat.le_refl _) (.cells #[.int .i64 m, .int .i64 k, .slice (some ⟨b, off, none⟩) xs.length cc] 26))
  have hz0 : w.heap.size ≤ (w.alloc (.cells #[.int .i64 m, .int .i64 k, .slice (some ⟨b, off, none⟩) xs.length cc] 26)).heap.size := by simp
  have R0 := Lib.hid (hR.alloc hB (.cells #[.int .i64 m, .int .i64 k, .slice (some ⟨b, off, none⟩) xs.length cc] 26))
  have x0 := Blk.new w #[.int .i64 m, .int .i64 k, .slice (some ⟨b, off, none⟩) xs.length cc] 26
  have hcap := hR.cap
  have HD := Lib.hid hd
  have hN : Hid (xs.length = k * m) := Lib.hid (by rw [hl.out, Nat.mul_comm])
  have e0 := x0.cell 0
  have e2 := x0.cell 2
  clear hR hd
  go_enter Try.func28, Try.ntmps28
  go_wp2_with fail
  refine (callsIn_wide.1 (chunk_in Fence.wide 3 trivial rfl (some ⟨b, off, none⟩) xs.length cc m m1 _)).mono ?_
  rintro e w1 ⟨rfl, hw1⟩
  generalize hwc : w.alloc (.cells #[.int .i64 m, .int .i64 k, .slice (some ⟨b, off, none⟩) xs.length cc] 26) = wc at *
  have bS := (Blk.new wc #[.slice (some ⟨b, off, none⟩) xs.length cc] 24).alloc (.cells #[.int .i64 m] 3)
  have bM := Blk.new (wc.alloc (.cells #[.slice (some ⟨b, off, none⟩) xs.length cc] 24)) #[.int .i64 m] 3
  have hb1 := Lib.hid (((Below.refl wc.heap.size wc).alloc (Nat.le_refl _) (.cells #[.slice (some ⟨b, off, none⟩) xs.length cc] 24)).alloc (by simp) (.cells #[.int .i64 m] 3))
  have hzw : wc.heap.size + 1 < ((wc.alloc (.cells #[.slice (some ⟨b, off, none⟩) xs.length cc] 24)).alloc (.cells #[.int .i64 m] 3)).heap.size := by simp
  rw [World.size_alloc] at bM
  rw [← hw1] at bS bM hb1 hzw
  have R1 := Lib.hid (R0.out.all hb1.out (Nat.le_trans hB hz0))
  have HB1 := Lib.hid (hb0.out.trans (hb1.out.mono hz0))
  have hz1 := HB1.out.size
  have hBc : B ≤ wc.heap.size := Nat.le_trans hB hz0
  have hz1c : wc.heap.size ≤ w1.heap.size := hb1.out.size
  clear e0 e2 x0 hb0 R0 hb1 hw1 hwc
  go_wp2_with fail
  refine (collect_any wc.heap.size b off xs.length cc m k m1 m8 k8 hN hcap w1 hzw bS bM).mono ?_
  rintro e w2 ⟨A2, c2, rfl, ho, hb2⟩
  have R2 := Lib.hid (R1.out.all hb2 (Nat.le_trans hBc hz1c))
  have HB2 := Lib.hid (HB1.out.trans (hb2.mono hz1))
  obtain ⟨g, rfl, _, _⟩ := ho.some_ (by rw [chunkL_len]; omega)
  have hRF := ho.rd
  have HSS := Lib.hid (seen_rows R2.out hl.out m1 m8)
  have HP := Lib.hid ((rows_period hl.out (Nat.le_of_lt hp)).trans HD.out)
  clear bS bM R1 HB1 hb2 ho
  go_wp2_with fail
  refine (hasPeriodS_eq g 0 k c2 w2.heap.size B p _ _ w2 hRF HSS hp d HP.out).mono ?_
  rintro e w3 ⟨rfl, hb3⟩
  have HB3 := Lib.hid (HB2.out.trans (hb3.mono HB2.out.size))
  go_wp2
  go_ret
  exact ⟨rfl, HB3.out⟩
set_option maxRecDepth 100000 in
set_option maxHeartbeats 1000000 in
theorem fitsD_eq (m k b off cc B q q0 : Nat) (xs : List Int) (w : World) (hx : Blk w q0 26 #[.int .i64 m, .int .i64 k, .slice (some ⟨b, off, none⟩) xs.length cc]) (hR : Rd w B (some ⟨b, off, none⟩) xs.length cc xs) (hB : B ≤ w.heap.size) (m1 : 1 ≤ m) (m8 : m ≤ 8) (k8 : k ≤ 8) (hl : Hid (xs.length = m * k)) (hq : q < k) :
    Calls Try.prog 37 #[.int .i64 q, .pointer (some ⟨q0, 0, none⟩)] w (Out w (.bool (downB m k xs q))) := by
  have e0 := hx.cell 0
  have e1 := hx.cell 1
  have e2 := hx.cell 2
  have hb0 := Lib.hid (Below.refl w.heap.size w)
  clear hx
  go_enter Try.func37, Try.ntmps37
  go_wp2_with fail
  refine (hasPeriodDown_eq m k b off cc B q xs w hR hB m1 m8 k8 hl hq _ rfl).mono ?_
  rintro e w2 ⟨rfl, hb2⟩
  clear e0 e1 e2
  go_wp2
  go_ret
  exact ⟨rfl, hb2⟩
set_option maxRecDepth 100000 in
set_option maxHeartbeats 2000000 in
theorem smallestD_any (most q0 : Nat) (w : World) (g : Nat → Bool) (h1 : 1 ≤ most) (h8 : most ≤ 8)
    (hp : Hid (∀ (W : World) (q : Nat), 1 ≤ q → q < most → Below w.heap.size w W → Calls Try.prog 37 #[.int .i64 q, .pointer (some ⟨q0, 0, none⟩)] W (Out W (.bool (g q))))) :
    Calls Try.prog 24 #[.int .i64 most, .func (.func 37) #[] #[.pointer (some ⟨q0, 0, none⟩)]] w (Out w (.int .i64 (firstP g (most - 1) 1))) := by
  have hb0 := Lib.hid (Below.refl w.heap.size w)
  obtain ⟨R, HR⟩ : ∃ R, Hid (firstP g (most - 1) 1 = R) := ⟨_, rfl⟩
  rw [HR.out]
  go_enter Try.func24, Try.ntmps24
  go_wp2
  go_loopw [5] (fun s5 wr => ∃ n : Nat, 1 ≤ n ∧ n ≤ most ∧ s5 = .int .i64 n ∧ Hid (firstP g (most - n) n = R) ∧ Hid (Below w.heap.size w wr)) (fun s5 _ => most - (intOf s5).toNat)
  case atStart => exact ⟨1, Nat.le_refl _, h1, rfl, HR, hb0⟩
  case round =>
    clear HR hb0
    obtain ⟨n, hn1, hnm, rfl, HR, HB⟩ := hrel
    have hwz := HB.out.size
    by_cases hlt : n < most
    · have hlt' : (n : Int) < (most : Int) := by omega
      have hcall := Lib.hid (hp.out wr n hn1 hlt HB.out)
      have hyes := Lib.hid (fun hh : g n = true => (firstP_yes (n := most - n) hh).symm.trans HR.out)
      have hno := Lib.hid (fun hh : g n = false => (show firstP g (most - (n + 1)) (n + 1) = R by
        have e : most - n = (most - (n + 1)) + 1 := by omega
        rw [← HR.out, e, firstP_no hh]))
      cases hq : g n with
      | true =>
        rw [hq] at hcall
        have HE := Lib.hid (hyes.out hq)
        clear hyes hno hq
        go_wp2_with (go_at_call 37; refine hcall.out.mono ?_; rintro e w2 ⟨rfl, hb2⟩)
        go_ret
        exact ⟨ret_int (by rw [← HE.out]), HB.out.trans (hb2.mono hwz)⟩
      | false =>
        rw [hq] at hcall
        have HE := Lib.hid (hno.out hq)
        clear hyes hno hq
        go_wp2_with (go_at_call 37; refine hcall.out.mono ?_; rintro e w2 ⟨rfl, hb2⟩)
        have HB2 := Lib.hid (HB.out.trans (hb2.mono hwz))
        go_roundw
        case rel => exact ⟨n + 1, by omega, by omega, by go_num, HE, HB2⟩
        case measure => simp [intOf]; omega
    · obtain rfl : n = most := by omega
      have HE := Lib.hid (show n = R by rw [← HR.out, Nat.sub_self]; rfl)
      go_wp2
      go_ret
      exact ⟨ret_int (by rw [← HE.out]), HB.out⟩
set_option maxRecDepth 100000 in
set_option maxHeartbeats 2000000 in
theorem implPeriodDown_any (W H : Int) (A : Option Addr) (n c B : Nat) (xs : List Int) (w : World) (hR : Rd w B A n c xs) (hB : B ≤ w.heap.size) :
    Calls Try.prog 11 #[chartV W H (.slice A n c)] w (Out w (.tuple #[.int .i64 (perDN W H xs), .bool (goodB W H xs)])) := by
  have hb0 := Lib.hid ((Below.refl w.heap.size w).alloc (Nat.le_refl _) (.cells #[.int .i64 W, .int .i64 H, .slice A n c] 26))
  have h' := Lib.hid (hR.alloc hB (.cells #[.int .i64 W, .int .i64 H, .slice A n c] 26))
  have x0 := Blk.new w #[.int .i64 W, .int .i64 H, .slice A n c] 26
  by_cases hg : goodB W H xs = true
  · have hv : perDN W H xs = _ := if_pos hg
    rw [hv, hg]
    clear hv
    obtain ⟨m, k, rfl, rfl, m1, m8, k1, k8, hl, h64, hl1, _⟩ := good_nat hg
    simp only [Int.toNat_natCast]
    obtain rfl := hR.len
    obtain ⟨b, off, rfl, _, _⟩ := hR.cells (by omega)
    clear hR
    go_enter Try.func11, Try.ntmps11
    go_wp2_with fail
    refine (implIsChart_any m k _ _ c B xs _ h'.out (by simp; omega)).mono ?_
    rintro e w1 ⟨rfl, hb⟩
    have x1 := x0.all hb
    have R1 := h'.out.all hb (by simp; omega)
    have HB := Lib.hid (hb0.out.trans (hb.mono (by simp)))
    have hz1 : w.heap.size ≤ w1.heap.size := HB.out.size
    have hxl := x1.lt
    rw [hg]
    clear hb x0 h' hb0 hg
    have e0 := x1.cell 1
    have hp := Lib.hid (show ∀ (W : World) (q : Nat), 1 ≤ q → q < k → Below w1.heap.size w1 W → Calls Try.prog 37 #[.int .i64 q, .pointer (some ⟨w.heap.size, 0, none⟩)] W (Out W (.bool (downB m k xs q))) from fun W q _ hqm hbW =>
      fitsD_eq m k b off c B q w.heap.size xs W (x1.all hbW) (R1.all hbW (Nat.le_trans hB hz1)) (Nat.le_trans (Nat.le_trans hB hz1) hbW.size) m1 m8 k8 hl hqm)
    have hRR := Lib.hid (show firstP (downB m k xs) (k - 1) 1 = perD m k xs from rfl)
    go_wp2_with fail
    refine (smallestD_any k w.heap.size w1 (downB m k xs) k1 k8 hp).mono ?_
    rintro e w2 ⟨rfl, hb2⟩
    have HB2 := Lib.hid (HB.out.trans (hb2.mono hz1))
    clear e0 hp hRR x1 R1 HB hb2
    go_wp2
    go_ret2
    exact ⟨rfl, HB2.out⟩
  · have hn0 := not_false hg
    have hv : perDN W H xs = 0 := if_neg hg
    have HV := Lib.hid hv
    have HG := Lib.hid hn0
    clear hv
    go_enter Try.func11, Try.ntmps11
    go_wp2_with fail
    refine (implIsChart_any W H A n c B xs _ h'.out (by simp; omega)).mono ?_
    rintro e w1 ⟨rfl, hb⟩
    have HB := Lib.hid (hb0.out.trans (hb.mono (by simp)))
    rw [hn0]
    clear hb x0 hg hn0
    go_wp2
    go_ret2
    exact ⟨ret_ib6 HV.out.symm HG.out.symm, HB.out⟩
end Go.Proofs.Ytpmhnklmhfadlaa
namespace Go.Proofs.Ytpmhnklmhfadlaa
open Go.RowKit

set_option maxRecDepth 100000 in
set_option maxHeartbeats 1000000 in
theorem fitsM1_eq (m k b off cc B q q0 : Nat) (xs : List Int) (w : World) (hx : Blk w q0 26 #[.int .i64 m, .int .i64 k, .slice (some ⟨b, off, none⟩) xs.length cc]) (hR : Rd w B (some ⟨b, off, none⟩) xs.length cc xs) (hB : B ≤ w.heap.size) (m1 : 1 ≤ m) (m8 : m ≤ 8) (k8 : k ≤ 8) (hl : Hid (xs.length = m * k)) (hq1 : 1 ≤ q) (hq : q < m) :
    Calls Try.prog 25 #[.int .i64 q, .pointer (some ⟨q0, 0, none⟩)] w (Out w (.bool (gA m k xs q))) := by
  have e0 := hx.cell 0
  have e1 := hx.cell 1
  have e2 := hx.cell 2
  have hb0 := Lib.hid (Below.refl w.heap.size w)
  have hqz : ¬ (q : Int) = 0 := by omega
  clear hx
  by_cases hz : m % q = 0
  · have hrem : Int.tmod (m : Int) (q : Int) = 0 := by rw [remN, hz]; rfl
    have hw0 : IntKind.i64.wrap 0 = 0 := rfl
    have HG := Lib.hid (show acrossB m k xs q = gA m k xs q by unfold gA; rw [decide_eq_true hz, Bool.true_and])
    clear hz
    go_enter Try.func25, Try.ntmps25
    go_wp2_with fail
    refine (hasPeriodAcross_eq m k b off cc B q xs w hR hB m1 m8 k8 hl (Nat.le_of_lt hq) _ HG.out).mono ?_
    rintro e w2 ⟨rfl, hb2⟩
    clear e0 e1 e2
    go_wp2
    go_ret
    exact ⟨rfl, hb2⟩
  · obtain ⟨r, hr⟩ : ∃ r, m % q = r := ⟨_, rfl⟩
    rw [hr] at hz
    have hrq : r < q := by rw [← hr]; exact Nat.mod_lt _ hq1
    have hrem : Int.tmod (m : Int) (q : Int) = (r : Int) := by rw [remN, hr]
    have hwr : IntKind.i64.wrap (r : Int) = (r : Int) := IntWalk.i64_in _ (by omega)
    have hrz : ¬ (r : Int) = 0 := by omega
    have HG := Lib.hid (show gA m k xs q = false by unfold gA; rw [hr, decide_eq_false hz, Bool.false_and])
    clear hr
    rw [HG.out]
    go_enter Try.func25, Try.ntmps25
    go_wp2_with fail
    go_ret
    exact ⟨rfl, hb0.out⟩
set_option maxRecDepth 100000 in
set_option maxHeartbeats 1000000 in
theorem fitsM2_eq (m k b off cc B q q0 : Nat) (xs : List Int) (w : World) (hx : Blk w q0 26 #[.int .i64 m, .int .i64 k, .slice (some ⟨b, off, none⟩) xs.length cc]) (hR : Rd w B (some ⟨b, off, none⟩) xs.length cc xs) (hB : B ≤ w.heap.size) (m1 : 1 ≤ m) (m8 : m ≤ 8) (k8 : k ≤ 8) (hl : Hid (xs.length = m * k)) (hq1 : 1 ≤ q) (hq : q < k) :
    Calls Try.prog 27 #[.int .i64 q, .pointer (some ⟨q0, 0, none⟩)] w (Out w (.bool (gD m k xs q))) := by
  have e0 := hx.cell 0
  have e1 := hx.cell 1
  have e2 := hx.cell 2
  have hb0 := Lib.hid (Below.refl w.heap.size w)
  have hqz : ¬ (q : Int) = 0 := by omega
  clear hx
  by_cases hz : k % q = 0
  · have hrem : Int.tmod (k : Int) (q : Int) = 0 := by rw [remN, hz]; rfl
    have hw0 : IntKind.i64.wrap 0 = 0 := rfl
    have HG := Lib.hid (show downB m k xs q = gD m k xs q by unfold gD; rw [decide_eq_true hz, Bool.true_and])
    clear hz
    go_enter Try.func27, Try.ntmps27
    go_wp2_with fail
    refine (hasPeriodDown_eq m k b off cc B q xs w hR hB m1 m8 k8 hl hq _ HG.out).mono ?_
    rintro e w2 ⟨rfl, hb2⟩
    clear e0 e1 e2
    go_wp2
    go_ret
    exact ⟨rfl, hb2⟩
  · obtain ⟨r, hr⟩ : ∃ r, k % q = r := ⟨_, rfl⟩
    rw [hr] at hz
    have hrq : r < q := by rw [← hr]; exact Nat.mod_lt _ hq1
    have hrem : Int.tmod (k : Int) (q : Int) = (r : Int) := by rw [remN, hr]
    have hwr : IntKind.i64.wrap (r : Int) = (r : Int) := IntWalk.i64_in _ (by omega)
    have hrz : ¬ (r : Int) = 0 := by omega
    have HG := Lib.hid (show gD m k xs q = false by unfold gD; rw [hr, decide_eq_false hz, Bool.false_and])
    clear hr
    rw [HG.out]
    go_enter Try.func27, Try.ntmps27
    go_wp2_with fail
    go_ret
    exact ⟨rfl, hb0.out⟩
set_option maxRecDepth 100000 in
set_option maxHeartbeats 2000000 in
theorem smallestM1_any (most q0 : Nat) (w : World) (g : Nat → Bool) (h1 : 1 ≤ most) (h8 : most ≤ 8)
    (hp : Hid (∀ (W : World) (q : Nat), 1 ≤ q → q < most → Below w.heap.size w W → Calls Try.prog 25 #[.int .i64 q, .pointer (some ⟨q0, 0, none⟩)] W (Out W (.bool (g q))))) :
    Calls Try.prog 24 #[.int .i64 most, .func (.func 25) #[] #[.pointer (some ⟨q0, 0, none⟩)]] w (Out w (.int .i64 (firstP g (most - 1) 1))) := by
  have hb0 := Lib.hid (Below.refl w.heap.size w)
  obtain ⟨R, HR⟩ : ∃ R, Hid (firstP g (most - 1) 1 = R) := ⟨_, rfl⟩
  rw [HR.out]
  go_enter Try.func24, Try.ntmps24
  go_wp2
  go_loopw [5] (fun s5 wr => ∃ n : Nat, 1 ≤ n ∧ n ≤ most ∧ s5 = .int .i64 n ∧ Hid (firstP g (most - n) n = R) ∧ Hid (Below w.heap.size w wr)) (fun s5 _ => most - (intOf s5).toNat)
  case atStart => exact ⟨1, Nat.le_refl _, h1, rfl, HR, hb0⟩
  case round =>
    clear HR hb0
    obtain ⟨n, hn1, hnm, rfl, HR, HB⟩ := hrel
    have hwz := HB.out.size
    by_cases hlt : n < most
    · have hlt' : (n : Int) < (most : Int) := by omega
      have hcall := Lib.hid (hp.out wr n hn1 hlt HB.out)
      have hyes := Lib.hid (fun hh : g n = true => (firstP_yes (n := most - n) hh).symm.trans HR.out)
      have hno := Lib.hid (fun hh : g n = false => (show firstP g (most - (n + 1)) (n + 1) = R by
        have e : most - n = (most - (n + 1)) + 1 := by omega
        rw [← HR.out, e, firstP_no hh]))
      cases hq : g n with
      | true =>
        rw [hq] at hcall
        have HE := Lib.hid (hyes.out hq)
        clear hyes hno hq
        go_wp2_with (go_at_call 25; refine hcall.out.mono ?_; rintro e w2 ⟨rfl, hb2⟩)
        go_ret
        exact ⟨ret_int (by rw [← HE.out]), HB.out.trans (hb2.mono hwz)⟩
      | false =>
        rw [hq] at hcall
        have HE := Lib.hid (hno.out hq)
        clear hyes hno hq
        go_wp2_with (go_at_call 25; refine hcall.out.mono ?_; rintro e w2 ⟨rfl, hb2⟩)
        have HB2 := Lib.hid (HB.out.trans (hb2.mono hwz))
        go_roundw
        case rel => exact ⟨n + 1, by omega, by omega, by go_num, HE, HB2⟩
        case measure => simp [intOf]; omega
    · obtain rfl : n = most := by omega
      have HE := Lib.hid (show n = R by rw [← HR.out, Nat.sub_self]; rfl)
      go_wp2
      go_ret
      exact ⟨ret_int (by rw [← HE.out]), HB.out⟩
set_option maxRecDepth 100000 in
set_option maxHeartbeats 2000000 in
theorem smallestM2_any (most q0 : Nat) (w : World) (g : Nat → Bool) (h1 : 1 ≤ most) (h8 : most ≤ 8)
    (hp : Hid (∀ (W : World) (q : Nat), 1 ≤ q → q < most → Below w.heap.size w W → Calls Try.prog 27 #[.int .i64 q, .pointer (some ⟨q0, 0, none⟩)] W (Out W (.bool (g q))))) :
    Calls Try.prog 24 #[.int .i64 most, .func (.func 27) #[] #[.pointer (some ⟨q0, 0, none⟩)]] w (Out w (.int .i64 (firstP g (most - 1) 1))) := by
  have hb0 := Lib.hid (Below.refl w.heap.size w)
  obtain ⟨R, HR⟩ : ∃ R, Hid (firstP g (most - 1) 1 = R) := ⟨_, rfl⟩
  rw [HR.out]
  go_enter Try.func24, Try.ntmps24
  go_wp2
  go_loopw [5] (fun s5 wr => ∃ n : Nat, 1 ≤ n ∧ n ≤ most ∧ s5 = .int .i64 n ∧ Hid (firstP g (most - n) n = R) ∧ Hid (Below w.heap.size w wr)) (fun s5 _ => most - (intOf s5).toNat)
  case atStart => exact ⟨1, Nat.le_refl _, h1, rfl, HR, hb0⟩
  case round =>
    clear HR hb0
    obtain ⟨n, hn1, hnm, rfl, HR, HB⟩ := hrel
    have hwz := HB.out.size
    by_cases hlt : n < most
    · have hlt' : (n : Int) < (most : Int) := by omega
      have hcall := Lib.hid (hp.out wr n hn1 hlt HB.out)
      have hyes := Lib.hid (fun hh : g n = true => (firstP_yes (n := most - n) hh).symm.trans HR.out)
      have hno := Lib.hid (fun hh : g n = false => (show firstP g (most - (n + 1)) (n + 1) = R by
        have e : most - n = (most - (n + 1)) + 1 := by omega
        rw [← HR.out, e, firstP_no hh]))
      cases hq : g n with
      | true =>
        rw [hq] at hcall
        have HE := Lib.hid (hyes.out hq)
        clear hyes hno hq
        go_wp2_with (go_at_call 27; refine hcall.out.mono ?_; rintro e w2 ⟨rfl, hb2⟩)
        go_ret
        exact ⟨ret_int (by rw [← HE.out]), HB.out.trans (hb2.mono hwz)⟩
      | false =>
        rw [hq] at hcall
        have HE := Lib.hid (hno.out hq)
        clear hyes hno hq
        go_wp2_with (go_at_call 27; refine hcall.out.mono ?_; rintro e w2 ⟨rfl, hb2⟩)
        have HB2 := Lib.hid (HB.out.trans (hb2.mono hwz))
        go_roundw
        case rel => exact ⟨n + 1, by omega, by omega, by go_num, HE, HB2⟩
        case measure => simp [intOf]; omega
    · obtain rfl : n = most := by omega
      have HE := Lib.hid (show n = R by rw [← HR.out, Nat.sub_self]; rfl)
      go_wp2
      go_ret
      exact ⟨ret_int (by rw [← HE.out]), HB.out⟩
set_option maxRecDepth 100000 in
set_option maxHeartbeats 4000000 in
theorem implSmallestMotif_any (W H : Int) (A : Option Addr) (n c B : Nat) (xs : List Int) (w : World) (hR : Rd w B A n c xs) (hB : B ≤ w.heap.size) :
    Calls Try.prog 6 #[chartV W H (.slice A n c)] w (OutChart w (orZero (goodB W H xs) (divA W.toNat H.toNat xs)) (orZero (goodB W H xs) (divD W.toNat H.toNat xs)) (motX W H xs) (goodB W H xs)) := by
  have hb0 := Lib.hid (((Below.refl w.heap.size w).alloc (Nat.le_refl _) (.cells #[.int .i64 W, .int .i64 H, .slice A n c] 26)).alloc (by simp) (.cells #[.int .i64 0, .int .i64 0, .slice none 0 0] 26))
  have h' := Lib.hid ((hR.alloc hB (.cells #[.int .i64 W, .int .i64 H, .slice A n c] 26)).alloc (by simp; omega) (.cells #[.int .i64 0, .int .i64 0, .slice none 0 0] 26))
  have r0 := (Blk.new (w.alloc (.cells #[.int .i64 W, .int .i64 H, .slice A n c] 26)) #[.int .i64 0, .int .i64 0, .slice none 0 0] 26)
  have x0 := (Blk.new w #[.int .i64 W, .int .i64 H, .slice A n c] 26).alloc (.cells #[.int .i64 0, .int .i64 0, .slice none 0 0] 26)
  by_cases h : (goodB W H xs) = true
  · have hX : motX W H xs = _ := if_pos h
    rw [hX, h, orZero, orZero, if_pos rfl, if_pos rfl]
    clear hX
    have hg : goodB W H xs = true := h
    obtain ⟨m, k, rfl, rfl, m1, m8, k1, k8, hl, h64, hl1, _⟩ := good_nat hg
    have h64' : m * k ≤ 64 := Nat.mul_le_mul m8 k8
    simp only [Int.toNat_natCast]
    obtain rfl := hR.len
    obtain ⟨b, off, rfl, _, _⟩ := hR.cells (by omega)
    clear hR
    obtain ⟨hA1, hAm, _, _⟩ := divA_bd (m := m) (k := k) (xs := xs) m1
    obtain ⟨hD1, hDk⟩ := divD_bd (m := m) (k := k) (xs := xs) k1
    obtain ⟨da, hda⟩ : ∃ da, Hid (divA m k xs = da) := ⟨_, rfl⟩
    obtain ⟨dd, hdd⟩ : ∃ dd, Hid (divD m k xs = dd) := ⟨_, rfl⟩
    rw [hda.out] at hA1 hAm ⊢
    rw [hdd.out] at hD1 hDk ⊢
    go_enter Try.func6, Try.ntmps6
    go_wp2_with fail
    refine (implIsChart_any m k _ _ c B xs _ h'.out (by simp; omega)).mono ?_
    rintro e w1 ⟨rfl, hb⟩
    have r1 := (r0.all hb).at_ (q := w.heap.size + 1) (by simp)
    have x1 := x0.all hb
    have R1 := h'.out.all hb (by simp; omega)
    have HB := Lib.hid (hb0.out.trans (hb.mono (by simp; omega)))
    have hsz := r1.lt
    have hz1 : w.heap.size ≤ w1.heap.size := HB.out.size
    have e0 := x1.cell 0
    have e1 := x1.cell 1
    have e2 := x1.cell 2
    clear hb r0 x0 h' hb0
    rw [hg]
    have hp1 := Lib.hid (show ∀ (V : World) (q : Nat), 1 ≤ q → q < m → Below w1.heap.size w1 V → Calls Try.prog 25 #[.int .i64 q, .pointer (some ⟨w.heap.size, 0, none⟩)] V (Out V (.bool (gA m k xs q))) from fun V q hq1 hqm hbV =>
      fitsM1_eq m k b off c B q w.heap.size xs V (x1.all hbV) (R1.all hbV (Nat.le_trans hB hz1)) (Nat.le_trans (Nat.le_trans hB hz1) hbV.size) m1 m8 k8 hl hq1 hqm)
    go_wp2_with fail
    refine (smallestM1_any m w.heap.size w1 (gA m k xs) m1 m8 hp1).mono ?_
    rw [divA_is, hda.out]
    rintro e w2 ⟨rfl, hb2⟩
    have x2 := x1.all hb2
    have r2 := r1.all hb2
    have R2 := R1.all hb2 (Nat.le_trans hB hz1)
    have HB2 := Lib.hid (HB.out.trans (hb2.mono hz1))
    have hz2 : w.heap.size ≤ w2.heap.size := HB2.out.size
    clear hp1 hb2 HB x1 r1 R1 e0 e1 e2
    have e1 := x2.cell 1
    have hp2 := Lib.hid (show ∀ (V : World) (q : Nat), 1 ≤ q → q < k → Below w2.heap.size w2 V → Calls Try.prog 27 #[.int .i64 q, .pointer (some ⟨w.heap.size, 0, none⟩)] V (Out V (.bool (gD m k xs q))) from fun V q hq1 hqm hbV =>
      fitsM2_eq m k b off c B q w.heap.size xs V (x2.all hbV) (R2.all hbV (Nat.le_trans hB hz2)) (Nat.le_trans (Nat.le_trans hB hz2) hbV.size) m1 m8 k8 hl hq1 hqm)
    go_wp2_with fail
    refine (smallestM2_any k w.heap.size w2 (gD m k xs) k1 k8 hp2).mono ?_
    rw [divD_is, hdd.out]
    rintro e w3 ⟨rfl, hb3⟩
    have x3 := x2.all hb3
    have r3 := r2.all hb3
    have R3 := R2.all hb3 (Nat.le_trans hB hz2)
    have HB3 := Lib.hid (HB2.out.trans (hb3.mono hz2))
    have hz3 : w.heap.size ≤ w3.heap.size := HB3.out.size
    clear hp2 hb3 HB2 x2 r2 R2 e1
    have e0 := x3.cell 0
    have e1 := x3.cell 1
    have e2 := x3.cell 2
    have hwi : withinB (m : Int) (k : Int) ((0 : Nat) : Int) ((0 : Nat) : Int) (dd : Int) (da : Int) = true := by
      unfold withinB; rw [decide_eq_true_eq]; omega
    have HPa := implPartOf_yes m k b off c B 0 0 dd da xs w3 R3 (Nat.le_trans hB hz3) hg hwi m1 m8 k8 hl h64' (by omega) (by omega) hD1 hA1
    go_wp2_with fail
    refine HPa.mono ?_
    rintro e w6 ⟨A6, c6, rfl, own6, hb6⟩
    have r6 := r3.all hb6
    have HB6 := Lib.hid (HB3.out.trans (hb6.mono hz3))
    have g0 := r6.cell 0
    have g1 := r6.cell 1
    have g2 := r6.cell 2
    have z0 := r6.frozen 0
    have z1 := r6.frozen 1
    have z2 := r6.frozen 2
    have hz6 := r6.lt
    clear hb6 e0 e1 e2 HPa
    have F := fin3 (p := w.heap.size + 1) (a := .int .i64 (da : Int)) (b := .int .i64 (dd : Int)) (c := .slice A6 (partL m xs 0 0 dd da).length c6) own6 (row_ne' own6.1 r6 (by decide)) HB6.out (by omega)
    go_wp2
    exact bodyPost_ret (v := .tuple #[chartV (da : Int) (dd : Int) (.slice A6 (partL m xs 0 0 dd da).length c6), .bool true]) (by simp [results, Try.results6, go_sem, g0, g1, g2]) rfl ⟨A6, c6, rfl, F.1.mono hz3, F.2⟩
  · have hX : motX W H xs = _ := if_neg h
    rw [hX, not_false h]
    have hg : goodB W H xs = false := not_false h
    go_enter Try.func6, Try.ntmps6
    go_wp2_with fail
    refine (implIsChart_any W H A n c B xs _ h'.out (by simp; omega)).mono ?_
    rintro e w1 ⟨rfl, hb⟩
    have r1 := (r0.all hb).at_ (q := w.heap.size + 1) (by simp)
    have HB := Lib.hid (hb0.out.trans (hb.mono (by simp; omega)))
    have g0 := r1.cell 0
    have g1 := r1.cell 1
    have g2 := r1.cell 2
    have z0 := r1.frozen 0
    have z1 := r1.frozen 1
    have z2 := r1.frozen 2
    clear hb r0
    rw [hg]
    go_wp2_with fail
    have F := fin3 (p := w.heap.size + 1) (a := .int .i64 0) (b := .int .i64 0) (c := .slice none 0 0) (Own.nil w1 w.heap.size) (by simp [Value.ownBlock]) HB.out (by omega)
    exact bodyPost_ret (v := .tuple #[chartV 0 0 (.slice none 0 0), .bool false]) (by simp [results, Try.results6, go_sem, g0, g1, g2]) rfl ⟨none, 0, rfl, F.1, F.2⟩
end Go.Proofs.Ytpmhnklmhfadlaa
