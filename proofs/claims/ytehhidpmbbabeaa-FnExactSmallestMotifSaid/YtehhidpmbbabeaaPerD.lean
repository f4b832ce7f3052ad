/- The walks of the program's hasPeriodDown: the chart's rows, slices.EqualFunc with slices.Equal. Condition: a valid chart, a period within. -/
import Derived.Test.YtehhidpmbbabeaaCollect
import Derived.Test.YtehhidpmbbabeaaShelf
namespace Go.Proofs.Ytehhidpmbbabeaa
open Go.RowKit

theorem drewN_2 (w : World) (a b : Nat) : (w.drewN a).drewN b = w.drewN (a + b) := by
  simp [World.drewN, Nat.add_assoc]
theorem SeenS.drewN {w : World} {B : Nat} {ss : List SlR} {yss : List (List Int)} (h : SeenS w B ss yss) (q : Nat) : SeenS (w.drewN q) B ss yss :=
  ⟨h.1, fun j s ys h1 h2 => ⟨(h.2 j s ys h1 h2).1, (h.2 j s ys h1 h2).2.1, (h.2 j s ys h1 h2).2.2.drewN q⟩⟩
theorem SeenS.cut {w : World} {B : Nat} {ss : List SlR} {yss : List (List Int)} (h : SeenS w B ss yss) (q : Nat) : SeenS w B (ss.drop q) (yss.drop q) :=
  ⟨by rw [List.length_drop, List.length_drop, h.1], fun j s ys h1 h2 => h.2 (q + j) s ys (by rw [← h1, List.getElem?_drop]) (by rw [← h2, List.getElem?_drop])⟩
theorem SeenS.head {w : World} {B : Nat} {ss : List SlR} {yss : List (List Int)} (h : SeenS w B ss yss) (q : Nat) : SeenS w B (ss.take q) (yss.take q) :=
  ⟨by rw [List.length_take, List.length_take, h.1], fun j s ys h1 h2 => by
    rw [List.getElem?_take] at h1 h2
    split at h1 <;> rename_i hj
    · rw [if_pos hj] at h2
      exact h.2 j s ys h1 h2
    · cases h1⟩
theorem equalD (b o n c b' o' n' c' B B' : Nat) (xs ys : List Int) (w : World) (h : Rd w B (some ⟨b, o, none⟩) n c xs) (h' : Rd w B' (some ⟨b', o', none⟩) n' c' ys) (hn : 1 ≤ n) (hn' : 1 ≤ n') (d : Bool) (hd : decide (xs = ys) = d) :
    Calls Try.prog 96 #[.slice (some ⟨b, o, none⟩) n c, .slice (some ⟨b', o', none⟩) n' c'] w fun e w' => e = .returned (.bool d) ∧ ∃ q, w' = w.drewN q := by
  subst hd
  obtain ⟨_, _, e, _, hc⟩ := h.cells (by omega)
  cases e
  obtain ⟨_, _, e, _, hc'⟩ := h'.cells (by omega)
  cases e
  obtain rfl := h.len
  obtain rfl := h'.len
  refine (Try.slices_Equal_int b o xs.length c b' o' ys.length c' xs ys w (Nat.le_refl _) (Nat.le_refl _) h.len_lt h'.len_lt hc hc').mono ?_
  rintro e w' ⟨rfl, q, rfl⟩
  refine ⟨ret_bool ?_, q, rfl⟩
  rw [List.take_of_length_le (Nat.le_refl _), List.take_of_length_le (Nat.le_refl _), Bool.eq_iff_iff]
  simp
set_option maxRecDepth 100000 in
set_option maxHeartbeats 2000000 in
theorem equalFuncS_eq (A A' : Option Addr) (n c c' B B' BS BS' : Nat) (ss ss' : List SlR) (yss yss' : List (List Int)) (w : World) (h : RdF sliF w B A n c ss) (h' : RdF sliF w B' A' n c' ss') (hS : SeenS w BS ss yss) (hS' : SeenS w BS' ss' yss') (d : Bool) (hd : decide (yss = yss') = d) :
    Calls Try.prog 110 #[.slice A n c, .slice A' n c', .func (.func 96) #[] #[]] w fun e w' => e = .returned (.bool d) ∧ ∃ q, w' = w.drewN q := by
  have hn := h.len_lt
  have HD := Lib.hid hd
  have hl := Lib.hid (show yss.length = n by rw [← hS.1]; exact h.len)
  have hl' := Lib.hid (show yss'.length = n by rw [← hS'.1]; exact h'.len)
  have HS1 := Lib.hid hS
  have HS2 := Lib.hid hS'
  clear hd hS hS'
  go_enter Try.func110, Try.ntmps110
  go_wp2
  go_loopw [17] (fun s17 wr => ∃ j : Nat, j ≤ n ∧ s17 = .int .i64 j ∧ Hid (∀ t, t < j → yss[t]? = yss'[t]?) ∧ Hid (∃ q, wr = w.drewN q)) (fun s17 _ => n - (intOf s17).toNat)
  case atStart => exact ⟨0, Nat.zero_le _, rfl, Lib.hid fun t ht => absurd ht (Nat.not_lt_zero _), Lib.hid ⟨0, rfl⟩⟩
  case round =>
    obtain ⟨j, hj, rfl, HS, HQ0⟩ := hrel
    obtain ⟨q0, hq0⟩ := HQ0.out
    have h1 : RdF sliF wr B A n c ss := by rw [hq0]; exact h.drewN q0
    have h1' : RdF sliF wr B' A' n c' ss' := by rw [hq0]; exact h'.drewN q0
    have HW := Lib.hid hq0
    have S1 := Lib.hid (show SeenS wr BS ss yss by rw [hq0]; exact HS1.out.drewN q0)
    have S2 := Lib.hid (show SeenS wr BS' ss' yss' by rw [hq0]; exact HS2.out.drewN q0)
    clear hq0 HQ0
    by_cases hlt : j < n
    · obtain ⟨b1, o1, s1, rfl, _, hx1, e1⟩ := Sl_at h1 hlt
      obtain ⟨b2, o2, s2, rfl, _, hx2, e2⟩ := Sl_at h1' hlt
      have hy1 : yss[j]? = some (yss[j]'(by rw [hl.out]; exact hlt)) := List.getElem?_eq_getElem _
      have hy2 : yss'[j]? = some (yss'[j]'(by rw [hl'.out]; exact hlt)) := List.getElem?_eq_getElem _
      generalize yss[j]'(by rw [hl.out]; exact hlt) = y1 at *
      generalize yss'[j]'(by rw [hl'.out]; exact hlt) = y2 at *
      obtain ⟨u1, u2, u3⟩ := S1.out.2 j s1 _ hx1.out hy1
      obtain ⟨v1, v2, v3⟩ := S2.out.2 j s2 _ hx2.out hy2
      obtain ⟨A1, n1, c1⟩ := s1
      obtain ⟨A2, n2, c2⟩ := s2
      simp only at u1 v1 u3 v3 e1 e2
      have hn1 : 1 ≤ n1 := by omega
      have hn2 : 1 ≤ n2 := by omega
      obtain ⟨g1, f1, hA1, _, _⟩ := u3.cells (by omega)
      obtain ⟨g2, f2, hA2, _, _⟩ := v3.cells (by omega)
      subst hA1 hA2
      have U3 := Lib.hid u3
      have V3 := Lib.hid v3
      have HY1 := Lib.hid hy1
      have HY2 := Lib.hid hy2
      clear u1 v1 u2 v2 u3 v3 hx1 hx2 hy1 hy2
      obtain ⟨q, HQ⟩ : ∃ q, Hid (decide (y1 = y2) = q) := ⟨_, rfl⟩
      cases q with
      | true =>
        have HN := Lib.hid (show ∀ t, t < j + 1 → yss[t]? = yss'[t]? from fun t ht => by
          by_cases e : t = j
          · subst e
            rw [HY1.out, HY2.out]
            have h5 := HQ.out
            rw [decide_eq_true_eq] at h5
            rw [h5]
          · exact HS.out t (by omega))
        go_wp2_with (go_at_call 96; refine (equalD g1 f1 n1 c1 g2 f2 n2 c2 _ _ y1 y2 _ U3.out V3.out hn1 hn2 true HQ.out).mono ?_; rintro e w2 ⟨rfl, q2, HW2⟩; replace HW2 := Lib.hid HW2)
        have HW3 := Lib.hid (show ∃ q, w2 = w.drewN q from ⟨q0 + q2, by rw [HW2.out, HW.out, drewN_2]⟩)
        go_roundw
        case rel => exact ⟨j + 1, by omega, by go_num, HN, HW3⟩
        case measure => simp [intOf]; omega
      | false =>
        have HN := Lib.hid (show d = false by
          rw [← HD.out, decide_eq_false_iff_not]
          intro e
          have h5 := HQ.out
          rw [decide_eq_false_iff_not] at h5
          apply h5
          have h6 := HY1.out
          rw [e, HY2.out] at h6
          injection h6 with h7
          exact h7.symm)
        go_wp2_with (go_at_call 96; refine (equalD g1 f1 n1 c1 g2 f2 n2 c2 _ _ y1 y2 _ U3.out V3.out hn1 hn2 false HQ.out).mono ?_; rintro e w2 ⟨rfl, q2, HW2⟩; replace HW2 := Lib.hid HW2)
        go_ret
        exact ⟨ret_bool HN.out.symm, q0 + q2, by rw [HW2.out, HW.out, drewN_2]⟩
    · obtain rfl : j = n := by omega
      have HN := Lib.hid (show d = true by
        rw [← HD.out, decide_eq_true_eq]
        refine List.ext_getElem? fun t => ?_
        by_cases ht : t < j
        · exact HS.out t ht
        · rw [List.getElem?_eq_none (by rw [hl.out]; omega), List.getElem?_eq_none (by rw [hl'.out]; omega)])
      go_wp2
      go_ret
      exact ⟨ret_bool HN.out.symm, q0, HW.out⟩
set_option maxRecDepth 100000 in
set_option maxHeartbeats 2000000 in
theorem hasPeriodS_eq (b off n c B BS p : Nat) (ss : List SlR) (yss : List (List Int)) (w : World) (h : RdF sliF w B (some ⟨b, off, none⟩) n c ss) (hS : Hid (SeenS w BS ss yss)) (hp : p < n) (d : Bool) (hd : decide (yss.drop p = yss.take (n - p)) = d) :
    Calls Try.prog 95 #[.slice (some ⟨b, off, none⟩) n c, .int .i64 p, .func (.func 96) #[] #[]] w (Out w (.bool d)) := by
  have hcap := h.cap
  have hmax := h.max
  have h1 := h.cut (q := p) (by omega)
  have h2 := h.head (q := n - p) (by omega)
  have k1 := Lib.hid (fun q => (hS.out.cut p).drewN q)
  have k2 := Lib.hid (fun q => (hS.out.head (n - p)).drewN q)
  unfold maxLen at hmax
  have hb0 := Lib.hid (Below.refl w.heap.size w)
  have hw1 : IntKind.i64.wrap ((n : Int) - (p : Int)) = (n : Int) - (p : Int) := IntWalk.i64_in _ (by omega)
  have htn : ((n : Int) - (p : Int)).toNat = n - p := by omega
  have hp0 : (0 : Int) ≤ (p : Int) := by omega
  have hpn : (p : Int) ≤ (n : Int) := by omega
  have hnp0 : (0 : Int) ≤ (n : Int) - (p : Int) := by omega
  have hnpc : (n : Int) - (p : Int) ≤ (c : Int) := by omega
  have hcp : ¬ c = p := by omega
  rw [if_neg hcp, show p * sliF.k = p from Nat.mul_one p] at h1
  have HD := Lib.hid hd
  clear h hd
  go_enter Try.func95, Try.ntmps95
  go_wp2
  go_quiet (first | (go_at_call 110; (with_reducible refine (equalFuncS_eq (some ⟨b, off + p, none⟩) (some ⟨b, off, none⟩) (n - p) (c - p) c B B BS BS (ss.drop p) (ss.take (n - p)) (yss.drop p) (yss.take (n - p)) _ (h1.drewN _) (h2.drewN _) (k1.out _) (k2.out _) d HD.out).mono ?_); rintro e wy ⟨rfl, qq, rfl⟩; first | exact ⟨rfl, _, drewN_2 _ _ _⟩ | exact ⟨rfl, _, rfl⟩))
  go_wp2
  go_ret
  exact ⟨rfl, by first | exact hb0.out | exact belowN hb0.out _⟩
end Go.Proofs.Ytehhidpmbbabeaa
