/- Mixtures of recipes as data: sorted names, one part each. No condition. -/
import Derived.Test.YtnfleambfidllaaPlaceS
import Derived.Lib.SlicesCompact
import Derived.Sort.Walk0
namespace Go.Proofs.Ytnfleambfidllaa
open Go.RowKit

theorem asc_unique : ∀ l1 l2 : List DyePartR, l1.Pairwise (fun p q => Op.bytesLess p.f0.toList q.f0.toList = true) → l2.Pairwise (fun p q => Op.bytesLess p.f0.toList q.f0.toList = true) → (∀ p, p ∈ l1 ↔ p ∈ l2) → l1 = l2
  | [], [], _, _, _ => rfl
  | [], q :: _, _, _, h => by have := (h q).2 (by simp); simp at this
  | p :: _, [], _, _, h => by have := (h p).1 (by simp); simp at this
  | p :: l1, q :: l2, h1, h2, h => by
    rw [List.pairwise_cons] at h1 h2
    have hp : p = q := by
      rcases List.mem_cons.1 ((h p).1 (by simp)) with e | e
      · exact e
      · rcases List.mem_cons.1 ((h q).2 (by simp)) with e' | e'
        · exact e'.symm
        · have a := h2.1 p e
          have b := h1.1 q e'
          have := less_trans _ _ _ a b
          rw [less_irr] at this
          cases this
    subst hp
    refine congrArg (p :: ·) (asc_unique l1 l2 h1.2 h2.2 fun x => ⟨fun hx => ?_, fun hx => ?_⟩)
    · rcases List.mem_cons.1 ((h x).1 (List.mem_cons_of_mem _ hx)) with e | e
      · subst e
        have := h1.1 x hx
        rw [less_irr] at this
        cases this
      · exact e
    · rcases List.mem_cons.1 ((h x).2 (List.mem_cons_of_mem _ hx)) with e | e
      · subst e
        have := h2.1 x hx
        rw [less_irr] at this
        cases this
      · exact e
/-- How much of a stuff a recipe asks for. -/
def ofS (xs : List DyePartR) (s : ByteArray) : Int := match posS xs s with | some k => (match xs[k]? with | some p => p.f1 | none => 0) | none => 0
theorem ofS_at {xs : List DyePartR} {s : ByteArray} {k : Nat} {p : DyePartR} (h : posS xs s = some k) (hp : xs[k]? = some p) : ofS xs s = p.f1 := by unfold ofS; rw [h]; simp [hp]
theorem ofS_none {xs : List DyePartR} {s : ByteArray} (h : posS xs s = none) : ofS xs s = 0 := by unfold ofS; rw [h]
theorem ofS_bd {xs : List DyePartR} (h : recB xs = true) (s : ByteArray) : 0 ≤ ofS xs s ∧ ofS xs s ≤ 1000 := by
  cases hp : posS xs s with
  | none => rw [ofS_none hp]; omega
  | some k =>
    obtain ⟨a, ha, _, _⟩ := posS_of hp
    rw [ofS_at hp ha]
    have := part_at h ha
    omega
def sumS (a b : List DyePartR) (sh : Int) (s : ByteArray) : Int := ofS a s * (100 - sh) + ofS b s * sh
def nS (a b : List DyePartR) (sh : Int) (s : ByteArray) : Int := (sumS a b sh s + 99) / 100
theorem sumS_bd {a b : List DyePartR} {sh : Int} (ha : recB a = true) (hb : recB b = true) (h0 : 0 ≤ sh) (h1 : sh ≤ 100) (s : ByteArray) :
    (0 ≤ ofS a s * (100 - sh) ∧ ofS a s * (100 - sh) ≤ 100000) ∧ (0 ≤ ofS b s * sh ∧ ofS b s * sh ≤ 100000) ∧ 0 ≤ sumS a b sh s ∧ sumS a b sh s ≤ 100000 := by
  have hA := ofS_bd ha s
  have hB := ofS_bd hb s
  have e1 := Int.mul_nonneg hA.1 (show (0 : Int) ≤ 100 - sh by omega)
  have e2 := Int.mul_nonneg hB.1 h0
  have e3 : ofS a s * (100 - sh) ≤ 1000 * (100 - sh) := Int.mul_le_mul_of_nonneg_right hA.2 (by omega)
  have e4 : ofS b s * sh ≤ 1000 * sh := Int.mul_le_mul_of_nonneg_right hB.2 h0
  unfold sumS
  omega
/-- The part for a stuff, if there is one. -/
def partS (a b : List DyePartR) (sh : Int) (s : ByteArray) : Option DyePartR := if 0 < sumS a b sh s then some ⟨s, nS a b sh s⟩ else none
/-- The names of both, each once, in order. -/
def namesL (a b : List DyePartR) : List (List UInt8) := (a ++ b).map fun p => p.f0.data.toList
def sortedL (a b : List DyePartR) : List (List UInt8) := Lib.compact ((namesL a b).mergeSort fun x y => decide (x ≤ y))
def stuffsL (a b : List DyePartR) : List ByteArray := (sortedL a b).map fun l => ⟨l.toArray⟩
def mixL (a b : List DyePartR) (sh : Int) : List DyePartR := (stuffsL a b).filterMap (partS a b sh)
theorem data_list (l : List UInt8) : (⟨l.toArray⟩ : ByteArray).data.toList = l := by simp
theorem list_data (s : ByteArray) : (⟨s.data.toList.toArray⟩ : ByteArray) = s := by simp
theorem toList_eq (s : ByteArray) : s.toList = s.data.toList := Lib.toList_data s
theorem ba_ext {s t : ByteArray} (h : s.data.toList = t.data.toList) : s = t := by
  rw [← list_data s, ← list_data t, h]
theorem name_eq {p : DyePartR} {s : ByteArray} : nameB s p = true ↔ p.f0 = s := by
  unfold nameB
  rw [beq_iff_eq, toList_eq, toList_eq]
  exact ⟨ba_ext, fun h => by rw [h]⟩
/-- Of a sorted list one of each, in strict order. -/
theorem compact_mem {zs : List (List UInt8)} (x : List UInt8) : x ∈ Lib.compact zs ↔ x ∈ zs := by
  unfold Lib.compact Lib.compactUpTo
  simp only [List.mem_map, List.mem_filter, List.mem_range]
  constructor
  · rintro ⟨j, ⟨hj, _⟩, rfl⟩
    rw [getElem!_pos _ j (by simpa using hj)]
    simp
  · intro hx
    obtain ⟨j, hj, e⟩ := List.getElem_of_mem hx
    -- the first place with x
    have : ∀ n, ∀ j, j ≤ n → (h : j < zs.length) → zs[j] = x → ∃ i, (i < zs.length ∧ Lib.keeps zs.toArray i = true) ∧ zs.toArray[i]! = x := by
      intro n
      induction n with
      | zero =>
        intro j hj hl e
        obtain rfl : j = 0 := by omega
        exact ⟨0, ⟨hl, by simp [Lib.keeps]⟩, by rw [getElem!_pos _ 0 (by simpa using hl)]; simpa using e⟩
      | succ n ih =>
        intro j hj hl e
        by_cases hk : Lib.keeps zs.toArray j = true
        · exact ⟨j, ⟨hl, hk⟩, by rw [getElem!_pos _ j (by simpa using hl)]; simpa using e⟩
        · have hk' : ¬ (j = 0 ∨ zs.toArray[j]! ≠ zs.toArray[j - 1]!) := by simpa [Lib.keeps] using hk
          have hj0 : j ≠ 0 := fun h => hk' (Or.inl h)
          have he : zs.toArray[j]! = zs.toArray[j - 1]! := by
            apply Decidable.byContradiction
            intro h
            exact hk' (Or.inr h)
          have hl' : j - 1 < zs.length := by omega
          refine ih (j - 1) (by omega) hl' ?_
          rw [getElem!_pos _ j (by simpa using hl), getElem!_pos _ (j - 1) (by simpa using hl')] at he
          simp only [List.getElem_toArray] at he
          rw [← he, e]
    exact this j j (Nat.le_refl _) hj e
theorem compact_asc {zs : List (List UInt8)} (h : zs.Pairwise (fun x y => x ≤ y)) : (Lib.compact zs).Pairwise (fun x y => x < y) := by
  unfold Lib.compact Lib.compactUpTo
  rw [List.pairwise_map]
  have h1 : ((List.range zs.length).filter (Lib.keeps zs.toArray)).Pairwise (fun i j => i < j) := List.Pairwise.filter _ (List.pairwise_lt_range)
  refine List.Pairwise.imp_of_mem ?_ h1
  intro i j hi hj hij
  simp only [List.mem_filter, List.mem_range] at hi hj
  obtain ⟨hj1, hj2⟩ := hj
  have hj2' : j = 0 ∨ zs.toArray[j]! ≠ zs.toArray[j - 1]! := by simpa [Lib.keeps] using hj2
  have hne : zs.toArray[j]! ≠ zs.toArray[j - 1]! := by
    rcases hj2' with h | h
    · omega
    · exact h
  rw [List.pairwise_iff_getElem] at h
  rw [getElem!_pos _ i (by simpa using hi.1), getElem!_pos _ j (by simpa using hj1)]
  rw [getElem!_pos _ j (by simpa using hj1), getElem!_pos _ (j - 1) (by simp; omega)] at hne
  simp only [List.getElem_toArray] at hne ⊢
  have hlt : zs[j - 1]'(by omega) < zs[j] := by
    have hle := h (j - 1) j (by omega) hj1 (by omega)
    rcases List.le_iff_lt_or_eq.1 hle with h' | h'
    · exact h'
    · exact absurd h'.symm hne
  by_cases he : i = j - 1
  · subst he
    exact hlt
  · have hle := h i (j - 1) hi.1 (by omega) (by omega)
    exact List.lt_of_le_of_lt hle hlt
theorem stuffs_mem (a b : List DyePartR) (s : ByteArray) : s ∈ stuffsL a b ↔ ∃ q ∈ a ++ b, q.f0 = s := by
  unfold stuffsL sortedL
  simp only [List.mem_map, compact_mem, List.mem_mergeSort]
  unfold namesL
  simp only [List.mem_map]
  constructor
  · rintro ⟨l, ⟨q, hq, rfl⟩, rfl⟩
    exact ⟨q, hq, (list_data _).symm⟩
  · rintro ⟨q, hq, rfl⟩
    exact ⟨_, ⟨q, hq, rfl⟩, list_data _⟩
theorem stuffs_asc (a b : List DyePartR) : (stuffsL a b).Pairwise (fun s t => Op.bytesLess s.toList t.toList = true) := by
  unfold stuffsL
  rw [List.pairwise_map]
  have hs : ((namesL a b).mergeSort fun x y => decide (x ≤ y)).Pairwise (fun x y => x ≤ y) := by
    have := List.pairwise_mergeSort (le := fun x y : List UInt8 => decide (x ≤ y)) (fun x y z h1 h2 => by
      simp only [decide_eq_true_eq] at *
      exact List.le_trans h1 h2) (fun x y => by
      simp only [Bool.or_eq_true, decide_eq_true_eq]
      exact List.le_total x y) (namesL a b)
    exact this.imp fun h => by simpa using h
  refine (compact_asc hs).imp fun h => ?_
  rw [toList_eq, toList_eq, data_list, data_list, bytesLess_eq]
  simpa using h
theorem part_mem {a b : List DyePartR} {sh : Int} {s : ByteArray} {p : DyePartR} : partS a b sh s = some p ↔ p.f0 = s ∧ p.f1 = nS a b sh s ∧ 0 < sumS a b sh s := by
  unfold partS
  split
  · next h =>
    constructor
    · intro e
      cases e
      exact ⟨rfl, rfl, h⟩
    · rintro ⟨e1, e2, _⟩
      cases p
      simp only at e1 e2
      rw [e1, e2]
  · next h =>
    constructor
    · intro e; cases e
    · rintro ⟨_, _, h'⟩; exact absurd h' h
theorem mix_mem (a b : List DyePartR) (sh : Int) (p : DyePartR) : p ∈ mixL a b sh ↔ (∃ q ∈ a ++ b, q.f0 = p.f0) ∧ p.f1 = nS a b sh p.f0 ∧ 0 < sumS a b sh p.f0 := by
  unfold mixL
  rw [List.mem_filterMap]
  constructor
  · rintro ⟨s, hs, e⟩
    obtain ⟨e1, e2, e3⟩ := part_mem.1 e
    subst e1
    exact ⟨(stuffs_mem a b _).1 hs, e2, e3⟩
  · rintro ⟨h1, h2, h3⟩
    exact ⟨p.f0, (stuffs_mem a b _).2 h1, part_mem.2 ⟨rfl, h2, h3⟩⟩
theorem filterMap_asc {f : ByteArray → Option DyePartR} (hf : ∀ s p, f s = some p → p.f0 = s) : ∀ l : List ByteArray, l.Pairwise (fun s t => Op.bytesLess s.toList t.toList = true) → (l.filterMap f).Pairwise (fun p q => Op.bytesLess p.f0.toList q.f0.toList = true) := by
  intro l h
  rw [List.pairwise_filterMap]
  refine h.imp fun {s t} hst p hp q hq => ?_
  rw [hf s p hp, hf t q hq]
  exact hst
theorem mix_asc (a b : List DyePartR) (sh : Int) : (mixL a b sh).Pairwise (fun p q => Op.bytesLess p.f0.toList q.f0.toList = true) :=
  filterMap_asc (fun _ _ h => (part_mem.1 h).1) _ (stuffs_asc a b)
end Go.Proofs.Ytnfleambfidllaa
