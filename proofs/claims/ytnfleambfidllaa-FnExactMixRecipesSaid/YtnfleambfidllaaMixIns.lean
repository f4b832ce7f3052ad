/- Parts put into a sorted list, one after the other. No condition. -/
import Derived.Test.YtnfleambfidllaaMixMath
namespace Go.Proofs.Ytnfleambfidllaa
open Go.RowKit

theorem less_tri : ∀ a b : List UInt8, Op.bytesLess a b = false → (a == b) = false → Op.bytesLess b a = true := by
  intro a
  induction a with
  | nil => intro b h1 h2; cases b <;> simp [Op.bytesLess] at h1 h2 ⊢
  | cons x xs ih =>
    intro b h1 h2
    cases b with
    | nil => simp [Op.bytesLess]
    | cons y ys =>
      simp only [Op.bytesLess, Bool.or_eq_false_iff, Bool.and_eq_false_iff, decide_eq_false_iff_not, beq_eq_false_iff_ne, UInt8.lt_iff_toNat_lt] at h1
      simp only [Op.bytesLess, Bool.or_eq_true, Bool.and_eq_true, decide_eq_true_eq, beq_iff_eq, UInt8.lt_iff_toNat_lt]
      by_cases e : x = y
      · subst e
        refine Or.inr ⟨rfl, ih ys ?_ ?_⟩
        · rcases h1.2 with h | h
          · exact absurd rfl h
          · exact h
        · simpa using h2
      · left
        have : x.toNat ≠ y.toNat := fun h => e (UInt8.toNat_inj.1 h)
        omega
abbrev Asc (l : List DyePartR) : Prop := l.Pairwise (fun p q => Op.bytesLess p.f0.toList q.f0.toList = true)
/-- The mixture of the parts up to a place. -/
structure MixAt (a b : List DyePartR) (sh : Int) (L : List DyePartR) (i : Nat) (M : List DyePartR) : Prop where
  asc : Asc M
  len : M.length ≤ i
  mem : ∀ p, p ∈ M ↔ (∃ q ∈ L.take i, q.f0 = p.f0) ∧ p.f1 = nS a b sh p.f0 ∧ 0 < sumS a b sh p.f0
section
variable {a b L M : List DyePartR} {sh : Int} {i : Nat} {q0 : DyePartR}
theorem mixAt_zero (a b : List DyePartR) (sh : Int) (L : List DyePartR) : MixAt a b sh L 0 [] := ⟨List.Pairwise.nil, Nat.le_refl _, fun p => by simp⟩
theorem take_mem (h : L[i]? = some q0) (s : ByteArray) : (∃ q ∈ L.take (i + 1), q.f0 = s) ↔ (∃ q ∈ L.take i, q.f0 = s) ∨ q0.f0 = s := by
  obtain ⟨hi, rfl⟩ := List.getElem?_eq_some_iff.1 h
  rw [List.take_succ_eq_append_getElem hi]
  constructor
  · rintro ⟨q, hq, e⟩
    rcases List.mem_append.1 hq with hq | hq
    · exact .inl ⟨q, hq, e⟩
    · simp at hq
      subst hq
      exact .inr e
  · rintro (⟨q, hq, e⟩ | e)
    · exact ⟨q, List.mem_append_left _ hq, e⟩
    · exact ⟨_, List.mem_append_right _ (by simp), e⟩
theorem nS_pos {s : ByteArray} (h : 0 < sumS a b sh s) : 0 < nS a b sh s := by unfold nS; omega
theorem mixAt_skip (h : MixAt a b sh L i M) (hq : L[i]? = some q0) (h0 : ¬ 0 < sumS a b sh q0.f0) : MixAt a b sh L (i + 1) M := by
  refine ⟨h.asc, by have := h.len; omega, fun p => ?_⟩
  rw [h.mem, take_mem hq]
  constructor
  · rintro ⟨h1, h2⟩; exact ⟨.inl h1, h2⟩
  · rintro ⟨h1 | h1, h2, h3⟩
    · exact ⟨h1, h2, h3⟩
    · rw [h1] at h0
      exact absurd h3 h0
theorem mixAt_has (h : MixAt a b sh L i M) (hq : L[i]? = some q0) (h0 : 0 < ofS M q0.f0) : MixAt a b sh L (i + 1) M := by
  refine ⟨h.asc, by have := h.len; omega, fun p => ?_⟩
  rw [h.mem, take_mem hq]
  constructor
  · rintro ⟨h1, h2⟩; exact ⟨.inl h1, h2⟩
  · rintro ⟨h1 | h1, h2, h3⟩
    · exact ⟨h1, h2, h3⟩
    · cases hp : posS M q0.f0 with
      | none => rw [ofS_none hp] at h0; omega
      | some k =>
        obtain ⟨x, hx, hn, _⟩ := posS_of hp
        have hxm := (h.mem x).1 (List.mem_of_getElem? hx)
        rw [name_eq.1 hn, h1] at hxm
        exact ⟨hxm.1, h2, h3⟩
theorem not_in (h : MixAt a b sh L i M) {s : ByteArray} (h0 : ¬ 0 < ofS M s) : ∀ p ∈ M, p.f0 ≠ s := by
  intro p hp e
  cases hq : posS M s with
  | none =>
    obtain ⟨j, hj⟩ := List.mem_iff_getElem?.1 hp
    have := posS_off hq j p hj
    rw [name_eq.2 e] at this
    cases this
  | some k =>
    obtain ⟨x, hx, hn, _⟩ := posS_of hq
    rw [ofS_at hq hx] at h0
    have hxm := (h.mem x).1 (List.mem_of_getElem? hx)
    have := nS_pos hxm.2.2
    rw [hxm.2.1] at h0
    exact h0 this
/-- All from a place on come behind. -/
def Behind (M : List DyePartR) (s : ByteArray) (k : Nat) : Prop := ∀ (j : Nat) (p : DyePartR), k ≤ j → M[j]? = some p → Op.bytesLess s.toList p.f0.toList = true
theorem behind_end (M : List DyePartR) (s : ByteArray) : Behind M s M.length := fun j p hj hp => by have := (List.getElem?_eq_some_iff.1 hp).1; omega
theorem behind_step {s : ByteArray} {k : Nat} {p : DyePartR} (h : Behind M s (k + 1)) (hp : M[k]? = some p) (hl : Op.bytesLess s.toList p.f0.toList = true) : Behind M s k := fun j x hj hx => by
  rcases Nat.lt_or_ge k j with h1 | h1
  · exact h j x h1 hx
  · obtain rfl : j = k := by omega
    rw [hp] at hx
    cases hx
    exact hl
theorem mixAt_ins (h : MixAt a b sh L i M) (hq : L[i]? = some q0) (hs : 0 < sumS a b sh q0.f0) (_h0 : ¬ 0 < ofS M q0.f0) {k : Nat} (hk : k ≤ M.length) (hb : Behind M q0.f0 k) (ha : ∀ p, 0 < k → M[k - 1]? = some p → Op.bytesLess p.f0.toList q0.f0.toList = true) :
    MixAt a b sh L (i + 1) (M.take k ++ [⟨q0.f0, nS a b sh q0.f0⟩] ++ M.drop k) := by
  have hall : ∀ p ∈ M.take k, Op.bytesLess p.f0.toList q0.f0.toList = true := by
    intro p hp
    obtain ⟨j, hj⟩ := List.mem_iff_getElem?.1 hp
    have hjk : j < k := by
      have := (List.getElem?_eq_some_iff.1 hj).1
      rw [List.length_take] at this
      omega
    rw [List.getElem?_take, if_pos hjk] at hj
    obtain ⟨x, hx⟩ : ∃ x, M[k - 1]? = some x := ⟨_, List.getElem?_eq_getElem (by omega)⟩
    have hx2 := ha x (by omega) hx
    by_cases e : j = k - 1
    · subst e
      rw [hj] at hx
      cases hx
      exact hx2
    · have := List.pairwise_iff_getElem.1 h.asc j (k - 1) (List.getElem?_eq_some_iff.1 hj).1 (List.getElem?_eq_some_iff.1 hx).1 (by omega)
      obtain ⟨_, e1⟩ := List.getElem?_eq_some_iff.1 hj
      obtain ⟨_, e2⟩ := List.getElem?_eq_some_iff.1 hx
      rw [e1, e2] at this
      exact less_trans _ _ _ this hx2
  have hdr : ∀ p ∈ M.drop k, Op.bytesLess q0.f0.toList p.f0.toList = true := by
    intro p hp
    obtain ⟨j, hj⟩ := List.mem_iff_getElem?.1 hp
    rw [List.getElem?_drop] at hj
    exact hb (k + j) p (by omega) hj
  refine ⟨?_, ?_, fun p => ?_⟩
  · unfold Asc
    rw [List.pairwise_append, List.pairwise_append]
    refine ⟨⟨h.asc.sublist (List.take_sublist _ _), List.pairwise_singleton _ _, ?_⟩, h.asc.sublist (List.drop_sublist _ _), ?_⟩
    · intro x hx y hy
      simp at hy
      subst hy
      exact hall x hx
    · intro x hx y hy
      rcases List.mem_append.1 hx with hx | hx
      · exact less_trans _ _ _ (hall x hx) (hdr y hy)
      · simp at hx
        subst hx
        exact hdr y hy
  · have := h.len
    simp only [List.length_append, List.length_take, List.length_drop, List.length_singleton]
    omega
  · have e : p ∈ M.take k ++ [⟨q0.f0, nS a b sh q0.f0⟩] ++ M.drop k ↔ p ∈ M ∨ p = ⟨q0.f0, nS a b sh q0.f0⟩ := by
      have e2 : p ∈ M ↔ p ∈ M.take k ∨ p ∈ M.drop k := by
        conv => lhs; rw [← List.take_append_drop k M]
        exact List.mem_append
      rw [e2]
      simp only [List.mem_append, List.mem_singleton]
      constructor
      · rintro ((h | h) | h)
        · exact .inl (.inl h)
        · exact .inr h
        · exact .inl (.inr h)
      · rintro ((h | h) | h)
        · exact .inl (.inl h)
        · exact .inr h
        · exact .inl (.inr h)
    rw [e, h.mem, take_mem hq]
    constructor
    · rintro (⟨h1, h2⟩ | rfl)
      · exact ⟨.inl h1, h2⟩
      · exact ⟨.inr rfl, rfl, hs⟩
    · rintro ⟨h1 | h1, h2, h3⟩
      · exact .inl ⟨h1, h2, h3⟩
      · right
        cases p
        simp only at h1 h2
        rw [h2, ← h1]
theorem mixAt_end (h : MixAt a b sh (a ++ b) i M) (hi : (a ++ b).length ≤ i) : M = mixL a b sh := by
  refine asc_unique _ _ h.asc (mix_asc a b sh) fun p => ?_
  rw [h.mem, mix_mem, List.take_of_length_le hi]
end
end Go.Proofs.Ytnfleambfidllaa
