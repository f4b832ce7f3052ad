/- A sorted permutation of a card's shades is the order that the model counts. No condition. -/
import Derived.Test.YtbieejgmnhhdiaaOrderC
namespace Go.Proofs.Ytbieejgmnhhdiaa
open Go.RowKit

/-- Ahead around the wheel. -/
def lexK (fr : Int) (a b : ShadeR) : Prop := keyI fr a < keyI fr b ∨ (keyI fr a = keyI fr b ∧ a.f0 < b.f0)
theorem cmp3 (x y : Int) : (x < y ∧ Lib.compareInt x y = -1) ∨ (x = y ∧ Lib.compareInt x y = 0) ∨ (y < x ∧ Lib.compareInt x y = 1) := by
  unfold Lib.compareInt
  by_cases h : x < y
  · exact Or.inl ⟨h, if_pos h⟩
  · by_cases h2 : x > y
    · exact Or.inr (Or.inr ⟨h2, by rw [if_neg h, if_pos h2]⟩)
    · exact Or.inr (Or.inl ⟨by omega, by rw [if_neg h, if_neg h2]⟩)
theorem or_neg (a b c : Int) : orI a b c < 0 ↔ a < 0 ∨ (a = 0 ∧ (b < 0 ∨ (b = 0 ∧ c < 0))) := by
  unfold orI
  by_cases h : a = 0
  · rw [if_pos h]
    by_cases h2 : b = 0
    · rw [if_pos h2]; omega
    · rw [if_neg h2]; omega
  · rw [if_neg h]; omega
theorem cmp_lex {fr : Int} {a b : ShadeR} (ha : Deep a.f3) (hb : Deep b.f3) : cmpI fr a b < 0 ↔ lexK fr a b := by
  obtain ⟨a0, a1⟩ := ha
  obtain ⟨b0, b1⟩ := hb
  unfold cmpI lexK keyI
  rw [or_neg]
  have h1 := Int.emod_nonneg (a.f2 - fr) (show (24 : Int) ≠ 0 by decide)
  have h2 := Int.emod_nonneg (b.f2 - fr) (show (24 : Int) ≠ 0 by decide)
  generalize (a.f2 - fr) % 24 = p at *
  generalize (b.f2 - fr) % 24 = q at *
  have e1 := cmp3 p q
  have e2 := cmp3 a.f3 b.f3
  have e3 := cmp3 a.f0 b.f0
  generalize Lib.compareInt p q = c1 at *
  generalize Lib.compareInt a.f3 b.f3 = c2 at *
  generalize Lib.compareInt a.f0 b.f0 = c3 at *
  omega
def segsS (fr : Int) (xs : List ShadeR) (k : Nat) : List ShadeR := (List.range k).flatMap fun (t : Nat) => xs.filter fun a => decide (keyI fr a = (t : Int))
theorem segsS_succ (fr : Int) (xs : List ShadeR) (k : Nat) : segsS fr xs (k + 1) = segsS fr xs k ++ xs.filter fun a => decide (keyI fr a = (k : Int)) := by
  unfold segsS
  rw [List.range_succ, List.flatMap_append]
  simp
theorem segsS_ids (fr : Int) (xs : List ShadeR) (k : Nat) : (segsS fr xs k).map ShadeR.f0 = segs fr xs k := by
  induction k with
  | zero => rfl
  | succ k ih => rw [segsS_succ, segs_succ, List.map_append, ih]; rfl
theorem filter_parts {α : Type} (p q r : α → Bool) (hr : ∀ a, r a = (p a || q a)) (hd : ∀ a, (p a && q a) = false) (xs : List α) : (xs.filter p ++ xs.filter q).Perm (xs.filter r) := by
  induction xs with
  | nil => exact List.Perm.refl _
  | cons a xs ih =>
    have h1 := hr a
    have h2 := hd a
    rw [List.filter_cons, List.filter_cons, List.filter_cons]
    cases hp : p a <;> cases hq : q a <;> rw [hp, hq] at h1 h2 <;> rw [h1]
    · simpa using ih
    · simp only [Bool.false_or, if_true, Bool.false_eq_true, if_false]
      exact List.perm_middle.trans (ih.cons a)
    · simp only [Bool.true_or, if_true, Bool.false_eq_true, if_false, List.cons_append]
      exact ih.cons a
    · simp at h2
theorem segsS_perm (fr : Int) (xs : List ShadeR) (h0 : ∀ a ∈ xs, 0 ≤ keyI fr a) (k : Nat) : (segsS fr xs k).Perm (xs.filter fun a => decide (keyI fr a < (k : Int))) := by
  induction k with
  | zero =>
    have : (xs.filter fun a => decide (keyI fr a < ((0 : Nat) : Int))) = [] := by
      rw [List.filter_eq_nil_iff]
      intro a ha
      have := h0 a ha
      simp
      omega
    rw [this]
    exact List.Perm.refl _
  | succ k ih =>
    rw [segsS_succ]
    refine (ih.append_right _).trans (filter_parts _ _ _ (fun a => ?_) (fun a => ?_) xs)
    · rw [Bool.eq_iff_iff]; simp; omega
    · rw [Bool.eq_false_iff]; simp; omega
theorem segsS_key (fr : Int) (xs : List ShadeR) (k : Nat) : ∀ a ∈ segsS fr xs k, keyI fr a < (k : Int) := by
  intro a ha
  unfold segsS at ha
  rw [List.mem_flatMap] at ha
  obtain ⟨t, ht, ha⟩ := ha
  have h1 := List.mem_range.1 ht
  have h2 := (List.mem_filter.1 ha).2
  simp at h2
  omega
theorem segsS_sorted (fr : Int) (xs : List ShadeR) (hx : xs.Pairwise fun a b => a.f0 < b.f0) (k : Nat) : (segsS fr xs k).Pairwise fun a b => ¬ lexK fr b a := by
  induction k with
  | zero => exact List.Pairwise.nil
  | succ k ih =>
    rw [segsS_succ, List.pairwise_append]
    refine ⟨ih, ?_, fun a ha b hb => ?_⟩
    · have h1 := List.Pairwise.filter (fun a => decide (keyI fr a = (k : Int))) hx
      refine List.Pairwise.imp_of_mem ?_ h1
      intro a b ha hb hab
      have h2 := (List.mem_filter.1 ha).2
      have h3 := (List.mem_filter.1 hb).2
      simp at h2 h3
      unfold lexK
      omega
    · have h1 := segsS_key fr xs k a ha
      have h2 := (List.mem_filter.1 hb).2
      simp at h2
      unfold lexK
      omega
theorem perm_sorted {α : Type} (lt : α → α → Prop) : ∀ (l m : List α), l.Perm m → l.Pairwise (fun a b => ¬ lt b a) → m.Pairwise (fun a b => ¬ lt b a) → (∀ a ∈ l, ∀ b ∈ l, ¬ lt a b → ¬ lt b a → a = b) → l = m := by
  intro l
  induction l with
  | nil => intro m h _ _ _; exact (List.Perm.nil_eq h)
  | cons a l ih =>
    intro m h h1 h2 h3
    cases m with
    | nil => exact absurd h.symm.nil_eq (by simp)
    | cons b m =>
      have hab : a = b := by
        have ha : a ∈ b :: m := h.mem_iff.1 List.mem_cons_self
        have hb : b ∈ a :: l := h.mem_iff.2 List.mem_cons_self
        rcases List.mem_cons.1 ha with e | ha
        · exact e
        · rcases List.mem_cons.1 hb with e | hb
          · exact e.symm
          · exact h3 a List.mem_cons_self b (List.mem_cons_of_mem _ hb) ((List.pairwise_cons.1 h2).1 a ha) ((List.pairwise_cons.1 h1).1 b hb)
      subst hab
      rw [ih m h.cons_inv (List.pairwise_cons.1 h1).2 (List.pairwise_cons.1 h2).2 (fun p hp q hq => h3 p (List.mem_cons_of_mem _ hp) q (List.mem_cons_of_mem _ hq))]
theorem key_bd {fr : Int} {a : ShadeR} (hd : Deep a.f3) : 0 ≤ keyI fr a ∧ keyI fr a < 240 := by
  obtain ⟨d0, d1⟩ := hd
  have h1 := Int.emod_nonneg (a.f2 - fr) (show (24 : Int) ≠ 0 by decide)
  have h2 := Int.emod_lt_of_pos (a.f2 - fr) (show (0 : Int) < 24 by decide)
  unfold keyI
  omega
/-- A sorted permutation of a card has the ids in the model's order. -/
theorem order_unique {fr : Int} {xs ys : List ShadeR} (h : cardB xs = true) (hp : ys.Perm xs) (hs : ys.Pairwise fun a b => ¬ cmpI fr b a < 0) : ys.map ShadeR.f0 = segs fr xs 240 := by
  have hc := (cardB_of h).2
  have hfine : ∀ a ∈ xs, Fine a := fun a ha => by
    obtain ⟨i, hi, rfl⟩ := List.getElem_of_mem ha
    exact card_fine h (List.getElem?_eq_getElem hi)
  have hx : xs.Pairwise fun a b => a.f0 < b.f0 := by
    rw [List.pairwise_iff_getElem]
    intro i j hi hj hij
    exact ((hc j _ hj (List.getElem?_eq_getElem hj)).2 i _ hij (List.getElem?_eq_getElem hi)).1
  have hM : (segsS fr xs 240).Perm xs := by
    refine (segsS_perm fr xs (fun a ha => (key_bd (hfine a ha).2).1) 240).trans ?_
    rw [List.filter_eq_self.2 (fun a ha => by have := (key_bd (fr := fr) (hfine a ha).2).2; simpa using this)]
  have hys : ∀ a ∈ ys, a ∈ xs := fun a ha => hp.mem_iff.1 ha
  have hs2 : ys.Pairwise fun a b => ¬ lexK fr b a := by
    refine List.Pairwise.imp_of_mem ?_ hs
    intro a b ha hb hab hl
    exact hab ((cmp_lex (hfine b (hys b hb)).2 (hfine a (hys a ha)).2).2 hl)
  have he : ys = segsS fr xs 240 := by
    refine perm_sorted (lexK fr) ys _ (hp.trans hM.symm) hs2 (segsS_sorted fr xs hx 240) ?_
    intro a ha b hb h1 h2
    have hid : a.f0 = b.f0 := by unfold lexK at h1 h2; omega
    obtain ⟨i, hi, hai⟩ := List.getElem_of_mem (hys a ha)
    obtain ⟨j, hj, hbj⟩ := List.getElem_of_mem (hys b hb)
    rcases Nat.lt_trichotomy i j with hl | hl | hl
    · have := (List.pairwise_iff_getElem.1 hx) i j hi hj hl
      rw [hai, hbj] at this
      omega
    · subst hl
      rw [← hai, ← hbj]
    · have := (List.pairwise_iff_getElem.1 hx) j i hj hi hl
      rw [hai, hbj] at this
      omega
  rw [he, segsS_ids]
end Go.Proofs.Ytbieejgmnhhdiaa
