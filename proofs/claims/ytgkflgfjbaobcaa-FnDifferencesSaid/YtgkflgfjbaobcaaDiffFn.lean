/- Plain mathematics of promise 13: a chart and itself, both charts the other way round, rows and their sum. No condition. -/
import Derived.Test.YtgkflgfjbaobcaaWrongK
import Derived.Test.YtgkflgfjbaobcaaSwMath
namespace Go.Proofs.Ytgkflgfjbaobcaa
open Go.RowKit

theorem shB_neg {d a : Int} (h : shB d a = true) : shB (-d) (-a) = true := by
  obtain ⟨h1, h2⟩ := shB_yes h
  simp only [shB, Bool.and_eq_true, decide_eq_true_eq]
  omega
theorem shB_zero : shB 0 0 = true := by decide
theorem okX_self {W H : Int} {xs : List Int} (h : goodB W H xs = true) : okX W H xs W H xs 0 0 = true := okX_yes h h shB_zero
theorem okX_back {W H W' H' d a : Int} {xs ys : List Int} (h : okX W H xs W' H' ys d a = true) : okX W' H' ys W H xs (-d) (-a) = true := by
  obtain ⟨h1, h2, h3⟩ := okX_of h
  exact okX_yes h2 h1 (shB_neg h3)
section
variable {m k pm pk p : Nat} {d a : Int} {xs ys : List Int}
theorem has_self (hm : 1 ≤ m) (hp : p < m * k) : hasP m m k 0 0 p = true := by
  have h1 : p / m < k := Nat.div_lt_of_lt_mul hp
  have h2 : p % m < m := Nat.mod_lt _ hm
  unfold hasP withinB
  rw [decide_eq_true_eq]
  generalize p / m = u at *
  generalize p % m = v at *
  omega
theorem ptn_self : ptn m m 0 0 p = p := by
  unfold ptn
  rw [Int.add_zero, Int.add_zero, Int.toNat_natCast, Int.toNat_natCast, Nat.mul_comm]
  exact Nat.div_add_mod p m
theorem filter_all {l : List Nat} {f : Nat → Bool} (h : ∀ x ∈ l, f x = true) : l.filter f = l := List.filter_eq_self.2 h
theorem self_all (hm : 1 ≤ m) (hl : xs.length = m * k) : (parTo m m k 0 0 xs.length).length = xs.length ∧ wrTo m m k xs xs 0 0 xs.length = [] := by
  constructor
  · unfold parTo
    rw [filter_all (fun x hx => has_self hm (by rw [← hl]; exact List.mem_range.1 hx)), List.length_range]
  · unfold wrTo
    rw [List.filter_eq_nil_iff]
    intro x _
    simp [difB, ptn_self]
/-- The partner's partner. -/
theorem ptn_back (hm : 1 ≤ m) (h : hasP m pm pk d a p = true) (hp : p < m * k) : hasP pm m k (-d) (-a) (ptn m pm d a p) = true ∧ ptn pm m (-d) (-a) (ptn m pm d a p) = p := by
  obtain ⟨he, hlt, h0r, h0c, h1r, h1c⟩ := ptn_eq h
  obtain ⟨r, hr⟩ := Int.eq_ofNat_of_zero_le h0r
  obtain ⟨c, hc⟩ := Int.eq_ofNat_of_zero_le h0c
  have hq : ptn m pm d a p = r * pm + c := by unfold ptn; rw [hr, hc]; simp
  have hcp : c < pm := by omega
  obtain ⟨hd1, hd2⟩ : (r * pm + c) / pm = r ∧ (r * pm + c) % pm = c := by
    have hpm : 0 < pm := by omega
    constructor
    · rw [Nat.mul_comm, Nat.mul_add_div hpm, Nat.div_eq_of_lt hcp]; rfl
    · rw [Nat.mul_comm, Nat.mul_add_mod, Nat.mod_eq_of_lt hcp]
  have h1 : p / m < k := Nat.div_lt_of_lt_mul hp
  have h2 : p % m < m := Nat.mod_lt _ hm
  have e1 : (r : Int) + -d = ((p / m : Nat) : Int) := by omega
  have e2 : (c : Int) + -a = ((p % m : Nat) : Int) := by omega
  rw [hq]
  constructor
  · unfold hasP
    rw [hd1, hd2, e1, e2]
    unfold withinB
    rw [decide_eq_true_eq]
    clear e1 e2 hr hc he hd1 hd2 hq hlt h0r h0c h1r h1c
    generalize p / m = u at *
    generalize p % m = v at *
    omega
  · unfold ptn
    rw [hd1, hd2, e1, e2, Int.toNat_natCast, Int.toNat_natCast, Nat.mul_comm]
    exact Nat.div_add_mod p m
theorem back_le (hm : 1 ≤ m) (hl : xs.length = m * k) (hl' : ys.length = pm * pk) (f : Nat → Bool) (g : Nat → Bool) (hfg : ∀ p, p < xs.length → hasP m pm pk d a p = true → f p = true → g (ptn m pm d a p) = true) :
    ((List.range xs.length).filter fun p => hasP m pm pk d a p && f p).length ≤ ((List.range ys.length).filter fun p => hasP pm m k (-d) (-a) p && g p).length := by
  have hnd : (((List.range xs.length).filter fun p => hasP m pm pk d a p && f p).map (ptn m pm d a)).Nodup := by
    rw [List.nodup_iff_pairwise_ne, List.pairwise_map]
    refine List.Pairwise.imp_of_mem ?_ (List.Pairwise.filter _ (List.nodup_iff_pairwise_ne.1 List.nodup_range))
    intro x y hx hy hne e
    obtain ⟨hx1, hx2⟩ := List.mem_filter.1 hx
    obtain ⟨hy1, hy2⟩ := List.mem_filter.1 hy
    rw [Bool.and_eq_true] at hx2 hy2
    have b1 := (ptn_back (k := k) hm hx2.1 (by rw [← hl]; exact List.mem_range.1 hx1)).2
    have b2 := (ptn_back (k := k) hm hy2.1 (by rw [← hl]; exact List.mem_range.1 hy1)).2
    rw [e] at b1
    exact hne (b1.symm.trans b2)
  have := hnd.length_le_of_subset (l₂ := (List.range ys.length).filter fun p => hasP pm m k (-d) (-a) p && g p) (fun q hq => by
    obtain ⟨p, hp, rfl⟩ := List.mem_map.1 hq
    obtain ⟨h1, h2⟩ := List.mem_filter.1 hp
    rw [Bool.and_eq_true] at h2
    have hlt := List.mem_range.1 h1
    refine List.mem_filter.2 ⟨List.mem_range.2 (by rw [hl']; exact (ptn_eq h2.1).2.1), ?_⟩
    rw [Bool.and_eq_true]
    exact ⟨(ptn_back (k := k) hm h2.1 (by rw [← hl]; exact hlt)).1, hfg p hlt h2.1 h2.2⟩)
  rwa [List.length_map] at this
theorem back_par (hm : 1 ≤ m) (hpm : 1 ≤ pm) (hl : xs.length = m * k) (hl' : ys.length = pm * pk) : (parTo pm m k (-d) (-a) ys.length).length = (parTo m pm pk d a xs.length).length := by
  have h1 := back_le (d := d) (a := a) hm hl hl' (fun _ => true) (fun _ => true) (fun _ _ _ _ => rfl)
  have h2 := back_le (d := -d) (a := -a) hpm hl' hl (fun _ => true) (fun _ => true) (fun _ _ _ _ => rfl)
  simp only [Bool.and_true, Int.neg_neg] at h1 h2
  unfold parTo
  exact Nat.le_antisymm h2 h1
theorem dif_back (hm : 1 ≤ m) (hp : p < m * k) (h : hasP m pm pk d a p = true) : difB pm m ys xs (-d) (-a) (ptn m pm d a p) = difB m pm xs ys d a p := by
  unfold difB
  rw [(ptn_back (k := k) hm h hp).2, bne_comm]
theorem back_wr (hm : 1 ≤ m) (hpm : 1 ≤ pm) (hl : xs.length = m * k) (hl' : ys.length = pm * pk) : (wrTo pm m k ys xs (-d) (-a) ys.length).length = (wrTo m pm pk xs ys d a xs.length).length := by
  have h1 := back_le (d := d) (a := a) hm hl hl' (difB m pm xs ys d a) (difB pm m ys xs (-d) (-a)) (fun p hp hh hf => by rw [dif_back (k := k) hm (by rw [← hl]; exact hp) hh]; exact hf)
  have h2 := back_le (d := -d) (a := -a) hpm hl' hl (difB pm m ys xs (-d) (-a)) (difB m pm xs ys d a) (fun p hp hh hf => by
    have := dif_back (k := pk) (xs := ys) (ys := xs) (d := -d) (a := -a) hpm (by rw [← hl']; exact hp) hh
    rw [Int.neg_neg, Int.neg_neg] at this
    rw [this]; exact hf)
  rw [Int.neg_neg, Int.neg_neg] at h2
  unfold wrTo
  omega
/-- All rows together. -/
theorem rows_sum (L : List Nat) (h : ∀ p ∈ L, p / m < k) : (rowsOf m k L).sum = (L.length : Int) := by
  have key : ∀ (j : Nat), ((List.range j).map fun r : Nat => ((L.countP fun p => decide (p / m = r) : Nat) : Int)).sum = ((L.countP fun p => decide (p / m < j) : Nat) : Int) := by
    intro j
    induction j with
    | zero =>
      have : (L.countP fun p => decide (p / m < 0)) = 0 := by rw [List.countP_eq_zero]; intro x _; simp
      rw [this]; rfl
    | succ j ih =>
      rw [List.range_succ, List.map_append, List.sum_append_int, ih]
      simp only [List.map_cons, List.map_nil, List.sum_cons, List.sum_nil, Int.add_zero]
      rw [← Int.natCast_add]
      congr 1
      clear ih h
      induction L with
      | nil => rfl
      | cons x L ih =>
        rw [List.countP_cons, List.countP_cons, List.countP_cons]
        by_cases h1 : x / m < j
        · simp only [h1, show x / m < j + 1 by omega, show ¬ x / m = j by omega, decide_true, decide_false, if_true]
          simp only [Bool.false_eq_true, if_false]
          omega
        · by_cases h2 : x / m = j
          · simp only [h2, show ¬ j < j by omega, show j < j + 1 by omega, decide_true, decide_false, if_true]
            simp only [Bool.false_eq_true, if_false]
            omega
          · simp only [h1, show ¬ x / m < j + 1 by omega, h2, decide_false]
            simp only [Bool.false_eq_true, if_false]
            omega
  unfold rowsOf
  rw [key k]
  congr 1
  rw [List.countP_eq_length]
  intro p hp
  exact decide_eq_true (h p hp)
end
/-- For charts of one size: without a shift no difference exactly if no colors were swapped. -/
theorem sw_wr {W0 H0 W1 H1 : Int} {xs ys : List Int} (h : sizeB W0 H0 xs W1 H1 ys = true) : okX W0 H0 xs W1 H1 ys 0 0 = true ∧ ((wrX W0 H0 xs W1 H1 ys 0 0).length = 0 ↔ (swX W0 H0 xs W1 H1 ys).length = 0) := by
  have hs := swX_yes h
  obtain ⟨m, k, rfl, rfl, rfl, rfl, hl1, hl, hm, _, _, _, h64, h1n, hx0, hx1⟩ := size_open h
  have hg : goodB m k xs = true ∧ goodB m k ys = true := by unfold sizeB at h; simp only [Bool.and_eq_true] at h; exact ⟨h.1.1.1, h.1.1.2⟩
  have hok := okX_yes hg.1 hg.2 shB_zero
  refine ⟨hok, ?_⟩
  rw [(wrX_yes hok).1, hs, List.length_eq_zero_iff, List.length_eq_zero_iff]
  unfold wrTo swTo
  rw [List.filter_eq_nil_iff, List.map_eq_nil_iff, List.filter_eq_nil_iff]
  constructor
  · intro hw q _ hq
    rw [Bool.and_eq_true] at hq
    have hmet := hq.1
    unfold metTo at hmet
    rw [List.any_eq_true] at hmet
    obtain ⟨j, hj, hj2⟩ := hmet
    rw [Bool.and_eq_true, beq_iff_eq, beq_iff_eq] at hj2
    refine hw j hj ?_
    rw [Bool.and_eq_true]
    refine ⟨has_self hm (by rw [← hl.out]; exact List.mem_range.1 hj), ?_⟩
    unfold difB
    rw [ptn_self, hj2.1, hj2.2, bne_iff_ne]
    have := of_decide_eq_true hq.2
    omega
  · intro hw p hp hd
    rw [Bool.and_eq_true] at hd
    have hlt := List.mem_range.1 hp
    have hd2 := hd.2
    unfold difB at hd2
    rw [ptn_self, bne_iff_ne] at hd2
    obtain ⟨v, hv6, hv⟩ := col_nat hx0 hlt
    obtain ⟨u, hu6, hu⟩ := col_nat hx1 (show p < ys.length by rw [hl1.out]; exact hlt)
    have hdv := div6 (a := v) hu6
    refine hw (v * 6 + u) (List.mem_range.2 (by omega)) ?_
    rw [Bool.and_eq_true]
    constructor
    · unfold metTo
      rw [List.any_eq_true]
      exact ⟨p, hp, by rw [Bool.and_eq_true, beq_iff_eq, beq_iff_eq, hdv.1, hdv.2]; exact ⟨hv.out, hu.out⟩⟩
    · rw [hdv.1, hdv.2]
      refine decide_eq_true (fun e => hd2 ?_)
      rw [hv.out, hu.out, e]
end Go.Proofs.Ytgkflgfjbaobcaa
