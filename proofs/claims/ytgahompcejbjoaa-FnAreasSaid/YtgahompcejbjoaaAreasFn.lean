/- What FnAreas asks of areas: all of them have all knots, being neighbors is mutual, filling makes no more of them. No condition. -/
import Derived.Test.YtgahompcejbjoaaGreatest
import Derived.Test.YtgahompcejbjoaaFill
import Derived.Test.YtgahompcejbjoaaSearchMath2
namespace Go.Proofs.Ytgahompcejbjoaa
open Go.RowKit

theorem sum_ite (n : Nat) (v : Int) : ∀ k : Nat, ((List.range k).map fun a : Nat => if v = (a : Int) then 1 else 0).sum = if 0 ≤ v ∧ v < (k : Int) then 1 else 0
  | 0 => by
    rw [if_neg (by omega)]; rfl
  | k + 1 => by
    rw [List.range_succ, List.map_append, List.sum_append, sum_ite n v k]
    by_cases h1 : v = (k : Int)
    · rw [if_neg (by omega), if_pos (by omega)]; simp [h1]
    · by_cases h2 : 0 ≤ v ∧ v < (k : Int)
      · rw [if_pos h2, if_pos (by omega)]; simp [h1]
      · rw [if_neg h2, if_neg (by omega)]; simp [h1]
/-- Numbers below n, counted one after the other. -/
theorem sum_count (n : Nat) : ∀ L : List Int, (∀ x ∈ L, 0 ≤ x ∧ x < (n : Int)) → ((List.range n).map fun a : Nat => L.count (a : Int)).sum = L.length
  | [], _ => by
    have : ((List.range n).map fun a : Nat => ([] : List Int).count (a : Int)) = List.replicate n 0 := by
      rw [List.eq_replicate_iff]
      exact ⟨by simp, fun b hb => by
        obtain ⟨a, _, rfl⟩ := List.mem_map.1 hb
        simp⟩
    rw [this]
    induction n with
    | zero => rfl
    | succ n ih => simp
  | v :: L, h => by
    have ih := sum_count n L (fun x hx => h x (by simp [hx]))
    have hv := h v (by simp)
    have e : ((List.range n).map fun a : Nat => (v :: L).count (a : Int)) = (List.range n).map fun a : Nat => L.count (a : Int) + if v = (a : Int) then 1 else 0 := by
      refine List.map_congr_left fun a _ => ?_
      rw [List.count_cons]
      by_cases e : v = (a : Int) <;> simp [e]
    have add : ∀ (l : List Nat) (f g : Nat → Nat), (l.map fun a => f a + g a).sum = (l.map f).sum + (l.map g).sum := by
      intro l f g
      induction l with
      | nil => rfl
      | cons a l ih => simp only [List.map_cons, List.sum_cons, ih]; omega
    rw [e, add, ih, sum_ite n v n, if_pos hv, List.length_cons]
theorem szA_sum (m : Nat) (xs : List Int) : ((List.range (cntOf m xs)).map fun a : Nat => szA m xs a).sum = xs.length := by
  have := sum_count (cntOf m xs) (labsOf m xs) (fun x hx => by
    obtain ⟨i, hi, rfl⟩ := List.mem_iff_getElem.1 hx
    rw [← getD_at hi]
    exact labAt_rng (by rw [← labs_len m xs]; exact hi))
  rw [labs_len] at this
  exact this
/-- The sums over the first colors. -/
noncomputable def colSum (m : Nat) (xs : List Int) (k : Nat) : Int := ((List.range k).map fun c : Nat => (sizesL m xs (c : Int)).sum).sum
noncomputable def colCnt (m : Nat) (xs : List Int) (k : Nat) : Nat := ((List.range k).map fun c : Nat => (sizesL m xs (c : Int)).length).sum
theorem colSum_succ (m : Nat) (xs : List Int) (k : Nat) : colSum m xs (k + 1) = colSum m xs k + (sizesL m xs (k : Int)).sum := by simp [colSum, List.range_succ]
theorem colCnt_succ (m : Nat) (xs : List Int) (k : Nat) : colCnt m xs (k + 1) = colCnt m xs k + (sizesL m xs (k : Int)).length := by simp [colCnt, List.range_succ]
theorem part_len (f : Nat → Int) : ∀ (l : List Nat), (∀ a ∈ l, 0 ≤ f a ∧ f a < 6) → ((List.range 6).map fun c : Nat => (l.filter fun a => decide (f a = (c : Int))).length).sum = l.length
  | [], _ => by simp [List.range_succ]
  | a :: l, h => by
    have ih := part_len f l (fun x hx => h x (by simp [hx]))
    have ha := h a (by simp)
    simp only [List.range_succ, List.range_zero, List.nil_append, List.map_append, List.map_cons, List.map_nil, List.sum_append, List.sum_cons, List.sum_nil, List.filter_cons, List.length_cons] at ih ⊢
    have hc : f a = 0 ∨ f a = 1 ∨ f a = 2 ∨ f a = 3 ∨ f a = 4 ∨ f a = 5 := by omega
    rcases hc with e | e | e | e | e | e <;> rw [e] <;> simp <;> simp at ih <;> omega
theorem part_sum (f : Nat → Int) (g : Nat → Nat) : ∀ (l : List Nat), (∀ a ∈ l, 0 ≤ f a ∧ f a < 6) → ((List.range 6).map fun c : Nat => (((l.filter fun a => decide (f a = (c : Int))).map fun a => ((g a : Nat) : Int))).sum).sum = ((l.map g).sum : Nat)
  | [], _ => by simp [List.range_succ]
  | a :: l, h => by
    have ih := part_sum f g l (fun x hx => h x (by simp [hx]))
    have ha := h a (by simp)
    simp only [List.range_succ, List.range_zero, List.nil_append, List.map_append, List.map_cons, List.map_nil, List.sum_append, List.sum_cons, List.sum_nil, List.filter_cons] at ih ⊢
    have hc : f a = 0 ∨ f a = 1 ∨ f a = 2 ∨ f a = 3 ∨ f a = 4 ∨ f a = 5 := by omega
    rcases hc with e | e | e | e | e | e <;> rw [e] <;> simp <;> simp at ih <;> omega
theorem colA_rng {m a : Nat} {xs : List Int} (h : ∀ x ∈ xs, 0 ≤ x ∧ x < 6) (ha : a < cntOf m xs) : 0 ≤ colA m xs a ∧ colA m xs a < 6 := by
  obtain ⟨x, hx, hl⟩ := labAt_all (m := m) ha
  rw [colA_eq hx hl, getD_at hx]
  exact h _ (List.getElem_mem hx)
theorem colSum_all {m : Nat} {xs : List Int} (h : ∀ x ∈ xs, 0 ≤ x ∧ x < 6) : colSum m xs 6 = (xs.length : Int) := by
  have := part_sum (colA m xs) (szA m xs) (List.range (cntOf m xs)) (fun a ha => colA_rng h (List.mem_range.1 ha))
  rw [szA_sum] at this
  exact this
theorem colCnt_all {m : Nat} {xs : List Int} (h : ∀ x ∈ xs, 0 ≤ x ∧ x < 6) : colCnt m xs 6 = cntOf m xs := by
  have := part_len (colA m xs) (List.range (cntOf m xs)) (fun a ha => colA_rng h (List.mem_range.1 ha))
  rw [List.length_range] at this
  rw [← this]
  simp only [colCnt, sizesL, sizesTo, List.length_map]
theorem gBest_max (m : Nat) (xs : List Int) : ∀ a b, b < a → szA m xs b ≤ szA m xs (gBest m xs a)
  | 0, _, h => by omega
  | a + 1, b, h => by
    by_cases hlt : szA m xs (gBest m xs a) < szA m xs a
    · rw [gBest_yes hlt]
      by_cases e : b = a
      · rw [e]; exact Nat.le_refl _
      · have := gBest_max m xs a b (by omega)
        omega
    · rw [gBest_no hlt]
      by_cases e : b = a
      · rw [e]; omega
      · exact gBest_max m xs a b (by omega)
theorem best_all {m : Nat} {xs : List Int} (h : 1 ≤ xs.length) : gBest m xs (cntOf m xs) < cntOf m xs ∧ 1 ≤ szA m xs (gBest m xs (cntOf m xs)) ∧ xs.length ≤ szA m xs (gBest m xs (cntOf m xs)) * cntOf m xs := by
  have h1 := gBest_lt m xs (cntOf m xs) (cnt_pos h)
  refine ⟨h1, szA_pos h1, ?_⟩
  have hs := szA_sum m xs
  have key : ∀ (l : List Nat) (g : Nat → Nat) (M : Nat), (∀ a ∈ l, g a ≤ M) → (l.map g).sum ≤ M * l.length := by
    intro l g M
    induction l with
    | nil => intro _; simp
    | cons a l ih =>
      intro h
      have h1 := h a (by simp)
      have h2 := ih (fun x hx => h x (by simp [hx]))
      rw [List.map_cons, List.sum_cons, List.length_cons, Nat.mul_succ]
      omega
  have := key (List.range (cntOf m xs)) (fun a => szA m xs a) _ (fun a ha => gBest_max m xs (cntOf m xs) a (List.mem_range.1 ha))
  rw [hs, List.length_range] at this
  exact this
/-- Being neighbors is mutual. -/
theorem nbrs_back {m a v : Nat} {xs : List Int} (ha : a < cntOf m xs) (hv : (v : Int) ∈ nbrsL m xs (a : Int)) : v < cntOf m xs ∧ (a : Int) ∈ nbrsL m xs (v : Int) := by
  unfold nbrsL at hv ⊢
  obtain ⟨b, hb, e⟩ := List.mem_map.1 hv
  obtain rfl : b = v := Int.ofNat_inj.1 e
  obtain ⟨hb1, hb2⟩ := List.mem_filter.1 hb
  simp only [decide_eq_true_eq] at hb2
  obtain ⟨hne, y, ⟨x, hx, hxa, hxy⟩, hyb⟩ := hb2
  refine ⟨List.mem_range.1 hb1, List.mem_map.2 ⟨a, List.mem_filter.2 ⟨List.mem_range.2 ha, ?_⟩, rfl⟩⟩
  simp only [decide_eq_true_eq]
  exact ⟨fun e => hne e.symm, x, ⟨y, hxy.2.1, hyb, hxy.symm⟩, hxa⟩
theorem nbrs_nat {m : Nat} {xs : List Int} {a v : Int} (hv : v ∈ nbrsL m xs a) : ∃ b : Nat, v = (b : Int) := by
  unfold nbrsL at hv
  obtain ⟨b, _, e⟩ := List.mem_map.1 hv
  exact ⟨b, e.symm⟩
theorem fillL_len (m : Nat) (xs : List Int) (a color : Int) : (fillL m xs a color).length = xs.length := by simp [fillL]
theorem fillL_get {m x : Nat} {xs : List Int} {a color : Int} (hx : x < xs.length) : (fillL m xs a color).getD x 0 = if labAt m xs x = a then color else xs.getD x 0 := by
  rw [getD_at (by rw [fillL_len]; exact hx)]
  simp [fillL]
/-- A filled chart has no more areas. -/
theorem fill_cnt (m : Nat) (xs : List Int) (a color : Int) : cntOf m (fillL m xs a color) ≤ cntOf m xs := by
  obtain ⟨ys, hys⟩ : ∃ ys, fillL m xs a color = ys := ⟨_, rfl⟩
  have hl : ys.length = xs.length := by rw [← hys]; exact fillL_len _ _ _ _
  have hg : ∀ x, x < xs.length → ys.getD x 0 = if labAt m xs x = a then color else xs.getD x 0 := fun x hx => by rw [← hys]; exact fillL_get hx
  rw [hys]
  have hr : ∀ x y, Rch m xs x y → x < xs.length → Rch m ys x y := by
    intro x y h hx
    refine (h (fun z => z < xs.length ∧ Rch m ys x z) ⟨hx, Rch.refl _ _ _⟩ ?_).2
    rintro u v ⟨hu, hru⟩ hs
    have hv : v < xs.length := hs.1.2.1
    refine ⟨hv, hru.step ⟨?_, ?_⟩⟩
    · rw [hl]; exact hs.1
    · have e : labAt m xs u = labAt m xs v := (labAt_iff hu hv).2 ((Rch.refl m xs u).step hs)
      rw [hg u hu, hg v hv, e, hs.2]
  have hx : ∀ b : Nat, ∃ x : Nat, b < cntOf m ys → x < xs.length ∧ labAt m ys x = (b : Int) := fun b => by
    by_cases hb : b < cntOf m ys
    · obtain ⟨x, h1, h2⟩ := labAt_all (m := m) hb
      exact ⟨x, fun _ => ⟨by omega, h2⟩⟩
    · exact ⟨0, fun g => absurd g hb⟩
  let f : Nat → Nat := fun b => (labAt m xs (Classical.choose (hx b))).toNat
  have hf : ∀ b, b < cntOf m ys → Classical.choose (hx b) < xs.length ∧ labAt m ys (Classical.choose (hx b)) = (b : Int) := fun b hb => Classical.choose_spec (hx b) hb
  have hnd : ((List.range (cntOf m ys)).map f).Nodup := by
    rw [List.nodup_iff_pairwise_ne, List.pairwise_map]
    refine List.Pairwise.imp_of_mem ?_ (List.nodup_iff_pairwise_ne.1 List.nodup_range)
    intro b b' hb hb' hne e
    obtain ⟨g1, g2⟩ := hf b (List.mem_range.1 hb)
    obtain ⟨g3, g4⟩ := hf b' (List.mem_range.1 hb')
    have r1 := labAt_rng (m := m) g1
    have r2 := labAt_rng (m := m) g3
    have e' : labAt m xs (Classical.choose (hx b)) = labAt m xs (Classical.choose (hx b')) := by
      have : (labAt m xs (Classical.choose (hx b))).toNat = (labAt m xs (Classical.choose (hx b'))).toNat := e
      omega
    have h1 := hr _ _ ((labAt_iff g1 g3).1 e') g1
    have h2 := (labAt_iff (by rw [hl]; exact g1) (by rw [hl]; exact g3)).2 h1
    rw [g2, g4] at h2
    omega
  have := nodup_le (cntOf m xs) _ hnd (fun x hx' => by
    obtain ⟨b, hb, rfl⟩ := List.mem_map.1 hx'
    have r1 := labAt_rng (m := m) (hf b (List.mem_range.1 hb)).1
    show (labAt m xs (Classical.choose (hx b))).toNat < cntOf m xs
    omega)
  simpa using this
end Go.Proofs.Ytgahompcejbjoaa
