/- The walks of the program's periods across: isSameColor, slices.EqualFunc with it, hasPeriod, hasPeriodAcross. Condition: a valid chart, a period within. -/
import Derived.Test.YtjfdcmdgpeeabaaTileMath
import Derived.Test.YtjfdcmdgpeeabaaSide
namespace Go.Proofs.Ytjfdcmdgpeeabaa
open Go.RowKit

theorem isSameColor_eq (a b : Int) (d : Bool) (w : World) (h : decide (a = b) = d) : Calls Try.prog 44 #[.int .i64 a, .int .i64 b] w fun e w' => e = .returned (.bool d) ∧ w = w' := by
  subst h
  go_enter Try.func44, Try.ntmps44
  go_wp2
  go_ret
  exact ⟨ret_bool (by rw [Bool.eq_iff_iff]; simp), by first | rfl | trivial⟩
set_option maxRecDepth 100000 in
set_option maxHeartbeats 2000000 in
theorem equalFuncI_eq (A A' : Option Addr) (n c n' c' B B' : Nat) (xs ys : List Int) (w : World) (h : Rd w B A n c xs) (h' : Rd w B' A' n' c' ys) (hB : B ≤ w.heap.size) (hB' : B' ≤ w.heap.size) (d : Bool) (hd : decide (xs = ys) = d) :
    Calls Try.prog 74 #[.slice A n c, .slice A' n' c', .func (.func 44) #[] #[]] w fun e w' => e = .returned (.bool d) ∧ w = w' := by
  have hn := h.len_lt
  have hn' := h'.len_lt
  have HD := Lib.hid hd
  have hl := Lib.hid h.len
  have hl' := Lib.hid h'.len
  clear hd
  by_cases hne : n = n'
  · subst hne
    go_enter Try.func74, Try.ntmps74
    go_wp2
    go_loopw [17] (fun s17 wr => ∃ j : Nat, j ≤ n ∧ s17 = .int .i64 j ∧ Hid (∀ t, t < j → xs.getD t 0 = ys.getD t 0) ∧ wr = w) (fun s17 _ => n - (intOf s17).toNat)
    case atStart => exact ⟨0, Nat.zero_le _, rfl, Lib.hid fun t ht => absurd ht (Nat.not_lt_zero _), rfl⟩
    case round =>
      obtain ⟨j, hj, rfl, HS, rfl⟩ := hrel
      by_cases hlt : j < n
      · obtain ⟨b1, o1, x, rfl, _, hx, _, _, HX⟩ := h.at hlt
        obtain ⟨b2, o2, y, rfl, _, hy, _, _, HY⟩ := h'.at hlt
        obtain ⟨q, HQ⟩ : ∃ q, Hid (decide (x = y) = q) := ⟨_, rfl⟩
        cases q with
        | true =>
          have HN := Lib.hid (show ∀ t, t < j + 1 → xs.getD t 0 = ys.getD t 0 from fun t ht => by
            by_cases e : t = j
            · subst e
              rw [HX.out, HY.out]; simpa using HQ.out
            · exact HS.out t (by omega))
          go_wp2_with (go_at_call 44; refine (isSameColor_eq x y true _ HQ.out).mono ?_; rintro e w2 ⟨rfl, rfl⟩)
          go_roundw
          case rel => exact ⟨j + 1, by omega, by go_num, HN, by first | rfl | trivial⟩
          case measure => simp [intOf]; omega
        | false =>
          have HN := Lib.hid (show d = false by
            rw [← HD.out, decide_eq_false_iff_not]
            intro e
            have h5 := HQ.out
            rw [decide_eq_false_iff_not, ← HX.out, ← HY.out, e] at h5
            exact h5 rfl)
          go_wp2_with (go_at_call 44; refine (isSameColor_eq x y false _ HQ.out).mono ?_; rintro e w2 ⟨rfl, rfl⟩)
          go_ret
          exact ⟨ret_bool HN.out.symm, by first | rfl | trivial⟩
      · obtain rfl : j = n := by omega
        have HN := Lib.hid (show d = true by
          rw [← HD.out, decide_eq_true_eq]
          exact list_ext0 (hl.out.trans hl'.out.symm) fun t ht => HS.out t (by rw [hl.out] at ht; exact ht))
        go_wp2
        go_ret
        exact ⟨ret_bool HN.out.symm, by first | rfl | trivial⟩
  · have HN := Lib.hid (show d = false by
      rw [← HD.out, decide_eq_false_iff_not]
      intro e
      exact hne (by rw [← hl.out, ← hl'.out, e]))
    have hne' : ¬ (n : Int) = (n' : Int) := by omega
    go_enter Try.func74, Try.ntmps74
    go_wp2
    go_ret
    exact ⟨ret_bool HN.out.symm, by first | rfl | trivial⟩
/-- A slice from p on. -/
theorem Rd.from_ {w : World} {B b off n c p : Nat} {xs : List Int} (h : Rd w B (some ⟨b, off, none⟩) n c xs) (hp : p ≤ n) : Rd w B (some ⟨b, if c = p then off else off + p, none⟩) (n - p) (c - p) (xs.drop p) := by
  have hl := h.len
  have hc := h.cap
  have hm := h.max
  refine ⟨by rw [List.length_drop, hl], by omega, by omega, fun hn => ?_, fun x hx => h.fits x (List.mem_of_mem_drop hx), fun e => by cases e⟩
  obtain ⟨_, _, e, hb, hcell⟩ := h.cells (by omega)
  cases e
  rw [if_neg (by omega)]
  refine ⟨b, _, rfl, hb, fun j hj => ?_⟩
  rw [Nat.add_assoc, hcell _ (by omega), List.getD_eq_getElem?_getD, List.getD_eq_getElem?_getD, List.getElem?_drop]
theorem Rd.head_ {w : World} {B b off n c q : Nat} {xs : List Int} (h : Rd w B (some ⟨b, off, none⟩) n c xs) (hq : q ≤ n) : Rd w B (some ⟨b, off, none⟩) q c (xs.take q) := by
  have hl := h.len
  have hc := h.cap
  refine ⟨by rw [List.length_take, hl]; omega, by omega, h.max, fun hn => ?_, fun x hx => h.fits x (List.mem_of_mem_take hx), fun e => by cases e⟩
  obtain ⟨_, _, e, hb, hcell⟩ := h.cells (by omega)
  cases e
  refine ⟨b, off, rfl, hb, fun j hj => ?_⟩
  rw [hcell _ (by omega), List.getD_eq_getElem?_getD, List.getD_eq_getElem?_getD, List.getElem?_take, if_pos hj]
set_option maxRecDepth 100000 in
set_option maxHeartbeats 2000000 in
theorem hasPeriodI_eq (b off n c B p : Nat) (xs : List Int) (w : World) (h : Rd w B (some ⟨b, off, none⟩) n c xs) (hB : B ≤ w.heap.size) (hp : p ≤ n) (d : Bool) (hd : decide (xs.drop p = xs.take (n - p)) = d) :
    Calls Try.prog 43 #[.slice (some ⟨b, off, none⟩) n c, .int .i64 p, .func (.func 44) #[] #[]] w (Out w (.bool d)) := by
  have hcap := h.cap
  have hmax := h.max
  have h1 := h.from_ hp
  have h2 := h.head_ (q := n - p) (by omega)
  unfold maxLen at hmax
  have hb0 := Lib.hid (Below.refl w.heap.size w)
  have hw1 : IntKind.i64.wrap ((n : Int) - (p : Int)) = (n : Int) - (p : Int) := IntWalk.i64_in _ (by omega)
  have htn : ((n : Int) - (p : Int)).toNat = n - p := by omega
  have hp0 : (0 : Int) ≤ (p : Int) := by omega
  have hpn : (p : Int) ≤ (n : Int) := by omega
  have hnp0 : (0 : Int) ≤ (n : Int) - (p : Int) := by omega
  have hnpc : (n : Int) - (p : Int) ≤ (c : Int) := by omega
  have hBq : ∀ q, B ≤ (w.drewN q).heap.size := fun _ => hB
  by_cases hcp : c = p
  · obtain rfl : n = c := by omega
    subst hcp
    have hl := h.len
    have hx1 : xs.drop n = [] := List.drop_eq_nil_of_le (by omega)
    have hx2 : xs.take (n - n) = [] := by simp
    rw [if_pos rfl, hx1] at h1
    rw [hx2] at h2
    rw [hx1, hx2] at hd
    simp only [Nat.sub_self] at h1 h2
    clear h hx1 hx2 hl hw1 htn hnp0 hnpc hpn
    have HD := Lib.hid hd
    clear hd
    have hw0 : IntKind.i64.wrap 0 = 0 := rfl
    have hw0' : IntKind.i64.wrap ((n : Int) - (n : Int)) = 0 := by rw [Int.sub_self]; rfl
    have hn0 : (0 : Int) ≤ (n : Int) := by omega
    have hnn : (n : Int) ≤ (n : Int) := Int.le_refl _
    go_enter Try.func43, Try.ntmps43
    go_wp2
    go_quiet (first | (go_at_call 74; (refine (equalFuncI_eq (some ⟨b, off, none⟩) (some ⟨b, off, none⟩) 0 0 0 n B B [] [] _ (h1.drewN _) (h2.drewN _) (hBq _) (hBq _) d HD.out).mono ?_); rintro e wy ⟨rfl, rfl⟩; exact ⟨rfl, _, rfl⟩))
    go_wp2
    go_ret
    exact ⟨rfl, by first | exact hb0.out | exact belowN hb0.out _⟩
  · rw [if_neg hcp] at h1
    have HD := Lib.hid hd
    clear h hd
    go_enter Try.func43, Try.ntmps43
    go_wp2
    go_quiet (first | (go_at_call 74; (with_reducible refine (equalFuncI_eq (some ⟨b, off + p, none⟩) (some ⟨b, off, none⟩) (n - p) (c - p) (n - p) c B B (xs.drop p) (xs.take (n - p)) _ (h1.drewN _) (h2.drewN _) (hBq _) (hBq _) d HD.out).mono ?_); rintro e wy ⟨rfl, rfl⟩; exact ⟨rfl, _, rfl⟩))
    go_wp2
    go_ret
    exact ⟨rfl, by first | exact hb0.out | exact belowN hb0.out _⟩
theorem row_period {m k p : Nat} {xs : List Int} (hl : xs.length = m * k) (hp : p ≤ m) : acrossB m k xs p = true ↔ ∀ i, i < k → (rowL m i xs).drop p = (rowL m i xs).take (m - p) := by
  rw [across_iff]
  constructor
  · intro h i hi
    have hrl := rowL_len hl hi
    refine list_ext0 (by rw [List.length_drop, List.length_take, hrl]; omega) fun j hj => ?_
    rw [List.length_drop, hrl] at hj
    have := h i j hi (by omega)
    rw [List.getD_eq_getElem?_getD, List.getElem?_drop, ← List.getD_eq_getElem?_getD, rowL_get (by omega), List.getD_eq_getElem?_getD (l := List.take _ _), List.getElem?_take, if_pos (by omega), ← List.getD_eq_getElem?_getD, rowL_get (by omega)]
    unfold elt at this
    rw [this]
    congr 1
    omega
  · intro h i j hi hj
    have hrl := rowL_len hl hi
    have e : ((rowL m i xs).drop p).getD j 0 = ((rowL m i xs).take (m - p)).getD j 0 := by rw [h i hi]
    rw [List.getD_eq_getElem?_getD, List.getElem?_drop, ← List.getD_eq_getElem?_getD, rowL_get (by omega), List.getD_eq_getElem?_getD (l := List.take _ _), List.getElem?_take, if_pos (by omega), ← List.getD_eq_getElem?_getD, rowL_get (by omega)] at e
    unfold elt
    rw [← e]
    congr 1
    omega
end Go.Proofs.Ytjfdcmdgpeeabaa
