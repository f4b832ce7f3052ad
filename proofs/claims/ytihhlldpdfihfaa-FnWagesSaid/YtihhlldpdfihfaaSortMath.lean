/- Numbers sorted, each once. No condition. -/
import Derived.Test.YtihhlldpdfihfaaPut1Math
import Derived.Lib.RowBridge
namespace Go.Proofs.Ytihhlldpdfihfaa
open Go.RowKit

def sortI (zs : List Int) : List Int := zs.mergeSort fun x y => decide (x ≤ y)
def setI (zs : List Int) : List Int := Lib.compact (sortI zs)
theorem sortI_len (zs : List Int) : (sortI zs).length = zs.length := List.length_mergeSort zs
theorem sortI_mem (zs : List Int) (x : Int) : x ∈ sortI zs ↔ x ∈ zs := List.mem_mergeSort
theorem sortI_asc (zs : List Int) : (sortI zs).Pairwise (fun x y => x ≤ y) := by
  have := List.pairwise_mergeSort (le := fun x y : Int => decide (x ≤ y)) (fun a b c => by simp; omega) (fun a b => by simp; omega) zs
  exact this.imp (by simp)
theorem compactI_mem {zs : List Int} (x : Int) : x ∈ Lib.compact zs ↔ x ∈ zs := by
  unfold Lib.compact Lib.compactUpTo
  simp only [List.mem_map, List.mem_filter, List.mem_range]
  constructor
  · rintro ⟨j, ⟨hj, _⟩, rfl⟩
    rw [getElem!_pos _ j (by simpa using hj)]
    simp
  · intro hx
    obtain ⟨j, hj, e⟩ := List.getElem_of_mem hx
    have : ∀ n, ∀ j, j ≤ n → (h : j < zs.length) → zs[j] = x → ∃ i, (i < zs.length ∧ Lib.keeps zs.toArray i = true) ∧ zs.toArray[i]! = x := by
      intro n
      induction n with
      | zero =>
        intro j hj hl e
        obtain rfl : j = 0 := by omega
        exact ⟨0, ⟨hl, by simp [Lib.keeps]⟩, by rw [getElem!_pos _ 0 (by simpa using hl)]; simpa using e⟩
      | succ n ih =>
        intro j hj hl e
        by_cases hk : Lib.keeps zs.toArray j = true
        · exact ⟨j, ⟨hl, hk⟩, by rw [getElem!_pos _ j (by simpa using hl)]; simpa using e⟩
        · have hk' : ¬ (j = 0 ∨ zs.toArray[j]! ≠ zs.toArray[j - 1]!) := by simpa [Lib.keeps] using hk
          have hj0 : j ≠ 0 := fun h => hk' (Or.inl h)
          have he : zs.toArray[j]! = zs.toArray[j - 1]! := by
            apply Decidable.byContradiction
            intro h
            exact hk' (Or.inr h)
          have hl' : j - 1 < zs.length := by omega
          refine ih (j - 1) (by omega) hl' ?_
          rw [getElem!_pos _ j (by simpa using hl), getElem!_pos _ (j - 1) (by simpa using hl')] at he
          simp only [List.getElem_toArray] at he
          rw [← he, e]
    exact this j j (Nat.le_refl _) hj e
theorem compactI_asc {zs : List Int} (h : zs.Pairwise (fun x y => x ≤ y)) : (Lib.compact zs).Pairwise (fun x y => x < y) := by
  unfold Lib.compact Lib.compactUpTo
  rw [List.pairwise_map]
  have h1 : ((List.range zs.length).filter (Lib.keeps zs.toArray)).Pairwise (fun i j => i < j) := List.Pairwise.filter _ (List.pairwise_lt_range)
  refine List.Pairwise.imp_of_mem ?_ h1
  intro i j hi hj hij
  simp only [List.mem_filter, List.mem_range] at hi hj
  obtain ⟨hj1, hj2⟩ := hj
  have hj2' : j = 0 ∨ zs.toArray[j]! ≠ zs.toArray[j - 1]! := by simpa [Lib.keeps] using hj2
  have hne : zs.toArray[j]! ≠ zs.toArray[j - 1]! := by
    rcases hj2' with h | h
    · omega
    · exact h
  rw [List.pairwise_iff_getElem] at h
  rw [getElem!_pos _ i (by simpa using hi.1), getElem!_pos _ j (by simpa using hj1)]
  rw [getElem!_pos _ j (by simpa using hj1), getElem!_pos _ (j - 1) (by simp; omega)] at hne
  simp only [List.getElem_toArray] at hne ⊢
  have hle := h (j - 1) j (by omega) hj1 (by omega)
  by_cases he : i = j - 1
  · subst he
    omega
  · have hle2 := h i (j - 1) hi.1 (by omega) (by omega)
    omega
theorem setI_mem (zs : List Int) (x : Int) : x ∈ setI zs ↔ x ∈ zs := by rw [setI, compactI_mem, sortI_mem]
theorem setI_asc (zs : List Int) : (setI zs).Pairwise (· < ·) := compactI_asc (sortI_asc zs)
theorem setI_len (zs : List Int) : (setI zs).length ≤ zs.length := by
  have := Lib.compact_length_le (sortI zs)
  rw [sortI_len] at this
  exact this
theorem setI_eq {zs l : List Int} (ha : l.Pairwise (· < ·)) (hm : ∀ y, y ∈ l ↔ y ∈ zs) : l = setI zs :=
  asc_uniqueI l (setI zs) ha (setI_asc zs) (fun p => by rw [hm, setI_mem])
end Go.Proofs.Ytihhlldpdfihfaa
