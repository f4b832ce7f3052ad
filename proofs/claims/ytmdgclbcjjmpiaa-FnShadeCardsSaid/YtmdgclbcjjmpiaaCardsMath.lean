/- Plain mathematics of the law on shade cards: the nearest shade, pairs after no years, triads within more. -/
import Derived.Test.YtmdgclbcjjmpiaaNearMath
import Derived.Test.YtmdgclbcjjmpiaaPairMath
import Derived.Test.YtmdgclbcjjmpiaaTriadMath
namespace Go.Proofs.Ytmdgclbcjjmpiaa
open Go.RowKit

theorem near_min {xs : List ShadeR} (wh d : Int) : ∀ k, 1 ≤ k → k ≤ xs.length → (∃ i, i < k ∧ xs[i]? = some (nearTo xs wh d k)) ∧ ∀ j a, j < k → xs[j]? = some a → ¬ distI a.f2 a.f3 wh d < distI (nearTo xs wh d k).f2 (nearTo xs wh d k).f3 wh d := by
  intro k
  induction k with
  | zero => intro h; omega
  | succ k ih =>
    intro _ hk
    obtain ⟨a, ha⟩ : ∃ a, xs[k]? = some a := ⟨_, List.getElem?_eq_getElem (by omega)⟩
    rcases Nat.eq_zero_or_pos k with rfl | h0
    · rw [nearTo_one wh d ha]
      refine ⟨⟨0, by omega, ha⟩, fun j b hj hb => ?_⟩
      obtain rfl : j = 0 := by omega
      rw [ha] at hb
      cases hb
      omega
    · obtain ⟨⟨i, hi, hn⟩, hmin⟩ := ih h0 (by omega)
      by_cases hlt : distI a.f2 a.f3 wh d < distI (nearTo xs wh d k).f2 (nearTo xs wh d k).f3 wh d
      · rw [nearTo_yes ha rfl hlt]
        refine ⟨⟨k, by omega, ha⟩, fun j b hj hb => ?_⟩
        rcases Nat.lt_or_ge j k with h1 | h1
        · have := hmin j b h1 hb; omega
        · obtain rfl : j = k := by omega
          rw [ha] at hb; cases hb; omega
      · rw [nearTo_no ha rfl hlt]
        refine ⟨⟨i, by omega, hn⟩, fun j b hj hb => ?_⟩
        rcases Nat.lt_or_ge j k with h1 | h1
        · exact hmin j b h1 hb
        · obtain rfl : j = k := by omega
          rw [ha] at hb; cases hb; exact hlt
/-- The shade with the nearest id is as near as any. -/
theorem near_best {xs : List ShadeR} {wh d : Int} (h : nearB xs wh d = true) {i j : Nat} {a b : ShadeR} (ha : xs[i]? = some a) (hb : xs[j]? = some b) (hid : a.f0 = nearN xs wh d) : ¬ distI b.f2 b.f3 wh d < distI a.f2 a.f3 wh d := by
  have hN : nearN xs wh d = (nearTo xs wh d xs.length).f0 := by rw [nearN, if_pos h]
  have hc : cardB xs = true := by unfold nearB at h; simp only [Bool.and_eq_true] at h; exact h.1.1.1
  have hil := (List.getElem?_eq_some_iff.1 ha).1
  have hjl := (List.getElem?_eq_some_iff.1 hb).1
  obtain ⟨⟨q, hq, hn⟩, hmin⟩ := near_min (xs := xs) wh d xs.length (by omega) (Nat.le_refl _)
  have hall := (cardB_of hc).2
  have : a = nearTo xs wh d xs.length := by
    rcases Nat.lt_trichotomy i q with hl | hl | hl
    · have := ((hall q _ hq hn).2 i a hl ha).1
      omega
    · subst hl; rw [ha] at hn; exact Option.some.inj hn
    · have := ((hall i a hil ha).2 q _ hl hn).1
      omega
  rw [this]
  exact hmin j b hjl hb
theorem pair_zero {le : Int} {a b : ShadeR} (ha : Deep a.f3) (hb : Deep b.f3) : pairB 0 le a b = false := by
  obtain ⟨a0, _⟩ := ha
  obtain ⟨b0, _⟩ := hb
  have e1 : fadD 0 a = a.f3 := by unfold fadD; rw [Int.zero_ediv]; omega
  have e2 : fadD 0 b = b.f3 := by unfold fadD; rw [Int.zero_ediv]; omega
  have : thenD 0 a b = nowD a b := by unfold thenD nowD; rw [e1, e2]
  unfold pairB
  rw [this]
  cases h : decide (le ≤ nowD a b) with
  | false => rfl
  | true => simp at h; simp; omega
theorem bRows_zero {le : Int} {a : ShadeR} {l : List ShadeR} (ha : Deep a.f3) (h : ∀ b ∈ l, Deep b.f3) : bRows 0 le a l = [] := by
  induction l with
  | nil => rfl
  | cons b r ih => rw [bRows, if_neg (by rw [pair_zero ha (h b (by simp))]; decide), ih (fun x hx => h x (by simp [hx]))]; rfl
theorem aRows_zero {le : Int} {l : List ShadeR} (h : ∀ b ∈ l, Deep b.f3) : aRows 0 le l = [] := by
  induction l with
  | nil => rfl
  | cons a r ih => rw [aRows, bRows_zero (h a (by simp)) (fun x hx => h x (by simp [hx])), ih (fun x hx => h x (by simp [hx]))]; rfl
theorem card_all {xs : List ShadeR} (h : cardB xs = true) : ∀ a ∈ xs, Fine a := fun a ha => by
  obtain ⟨i, hi, rfl⟩ := List.getElem_of_mem ha
  exact card_fine h (List.getElem?_eq_getElem hi)
/-- After no years no pair has faded together. -/
theorem apart_zero {xs : List ShadeR} {ye le : Int} (h : apartOk xs ye le = true) : apartOk xs 0 le = true ∧ apartX xs 0 le = [] := by
  unfold apartOk at h
  simp only [Bool.and_eq_true] at h
  obtain ⟨⟨h1, h2⟩, h3⟩ := h
  have hy := apart_yes (ye := 0) h1 (by decide) h3
  exact ⟨hy.2, hy.1.trans (aRows_zero fun b hb => (card_all h1 b hb).2)⟩
theorem third_more {wi : Int} {a b : ShadeR} (h : thirdB wi a b = true) : thirdB (wi + 1) a b = true := by
  unfold thirdB at *
  simp only [decide_eq_true_eq] at *
  omega
theorem triad_more {wi : Int} {a b c : ShadeR} (h : triadB wi a b c = true) : triadB (wi + 1) a b c = true := by
  unfold triadB at *
  simp only [Bool.and_eq_true] at *
  exact ⟨⟨third_more h.1.1, third_more h.1.2⟩, third_more h.2⟩
theorem kRows_more {wi : Int} {a b : ShadeR} (l : List ShadeR) : (kRows wi a b l).length ≤ (kRows (wi + 1) a b l).length := by
  induction l with
  | nil => exact Nat.le_refl _
  | cons c r ih =>
    rw [kRows, kRows, List.length_append, List.length_append]
    by_cases h : triadB wi a b c = true
    · rw [if_pos h, if_pos (triad_more h)]; simp; omega
    · rw [if_neg h]; simp; omega
theorem jRows_more {wi : Int} {a : ShadeR} (l : List ShadeR) : (jRows wi a l).length ≤ (jRows (wi + 1) a l).length := by
  induction l with
  | nil => exact Nat.le_refl _
  | cons b r ih => have := kRows_more (wi := wi) (a := a) (b := b) r; rw [jRows, jRows, List.length_append, List.length_append]; omega
theorem iRows_more {wi : Int} (l : List ShadeR) : (iRows wi l).length ≤ (iRows (wi + 1) l).length := by
  induction l with
  | nil => exact Nat.le_refl _
  | cons a r ih => have := jRows_more (wi := wi) (a := a) r; rw [iRows, iRows, List.length_append, List.length_append]; omega
/-- Within more there are no fewer triads. -/
theorem triads_more {xs : List ShadeR} {wi : Int} (h : triadOk xs wi = true) (h' : triadOk xs (wi + 1) = true) : (triadX xs wi).length ≤ (triadX xs (wi + 1)).length := by
  unfold triadX
  rw [if_pos h, if_pos h']
  exact iRows_more xs
end Go.Proofs.Ytmdgclbcjjmpiaa
