/- A number put into its place of a list in order. No condition. -/
import Derived.Test.YtihhlldpdfihfaaMem
namespace Go.Proofs.Ytihhlldpdfihfaa
open Go.RowKit

def putI (xs : List Int) (x : Int) : List Int := xs.takeWhile (fun y => decide (y < x)) ++ ([x] ++ xs.dropWhile (fun y => decide (y < x)))
theorem putI_len (xs : List Int) (x : Int) : (putI xs x).length = xs.length + 1 := by
  have h := congrArg List.length (List.takeWhile_append_dropWhile (p := fun y => decide (y < x)) (l := xs))
  rw [List.length_append] at h
  simp only [putI, List.length_append, List.length_singleton]
  omega
theorem putI_mem (xs : List Int) (x y : Int) : y ∈ putI xs x ↔ y = x ∨ y ∈ xs := by
  have h := List.takeWhile_append_dropWhile (p := fun y => decide (y < x)) (l := xs)
  have h2 : y ∈ xs ↔ y ∈ xs.takeWhile (fun y => decide (y < x)) ∨ y ∈ xs.dropWhile (fun y => decide (y < x)) := by
    rw [← List.mem_append, h]
  rw [h2]
  simp only [putI, List.mem_append, List.mem_singleton]
  constructor
  · rintro (h | h | h) <;> simp [h]
  · rintro (h | h | h) <;> simp [h]
theorem drop_all (x : Int) : ∀ xs : List Int, xs.Pairwise (· < ·) → ∀ y ∈ xs.dropWhile (fun y => decide (y < x)), x ≤ y := by
  intro xs
  induction xs with
  | nil => intro _ y hy; simp at hy
  | cons a xs ih =>
    intro hp y hy
    rw [List.pairwise_cons] at hp
    rw [List.dropWhile_cons] at hy
    split at hy
    · exact ih hp.2 y hy
    · next hd =>
      simp only [decide_eq_true_eq] at hd
      rcases List.mem_cons.1 hy with rfl | hy
      · omega
      · have := hp.1 y hy; omega
theorem putI_asc {xs : List Int} {x : Int} (h : xs.Pairwise (· < ·)) (hx : x ∉ xs) : (putI xs x).Pairwise (· < ·) := by
  have e := List.takeWhile_append_dropWhile (p := fun y => decide (y < x)) (l := xs)
  have h' := h
  rw [← e, List.pairwise_append] at h
  unfold putI
  rw [List.pairwise_append]
  refine ⟨h.1, ?_, fun a ha b hb => ?_⟩
  · rw [List.singleton_append, List.pairwise_cons]
    refine ⟨fun y hy => ?_, h.2.1⟩
    have h1 := drop_all x xs h' y hy
    have h2 : y ≠ x := fun e2 => hx (by rw [← e, List.mem_append]; exact .inr (e2 ▸ hy))
    omega
  · have ha' : a < x := by
      have := List.all_takeWhile (p := fun y => decide (y < x)) (l := xs)
      rw [List.all_eq_true] at this
      simpa using this a ha
    rcases List.mem_append.1 hb with hb | hb
    · rw [List.mem_singleton] at hb; omega
    · exact h.2.2 a ha b hb
theorem asc_uniqueI : ∀ l1 l2 : List Int, l1.Pairwise (· < ·) → l2.Pairwise (· < ·) → (∀ p, p ∈ l1 ↔ p ∈ l2) → l1 = l2
  | [], [], _, _, _ => rfl
  | [], b :: l2, _, _, h => absurd ((h b).2 (by simp)) (by simp)
  | a :: l1, [], _, _, h => absurd ((h a).1 (by simp)) (by simp)
  | a :: l1, b :: l2, h1, h2, h => by
    rw [List.pairwise_cons] at h1 h2
    have e : a = b := by
      have ha := (h a).1 (by simp)
      have hb := (h b).2 (by simp)
      rcases List.mem_cons.1 ha with e | ha
      · exact e
      rcases List.mem_cons.1 hb with e | hb
      · exact e.symm
      have := h1.1 b hb
      have := h2.1 a ha
      omega
    subst e
    rw [asc_uniqueI l1 l2 h1.2 h2.2 (fun p => ?_)]
    have hp := h p
    simp only [List.mem_cons] at hp
    constructor
    · intro hm
      rcases hp.1 (.inr hm) with rfl | h'
      · exact absurd (h1.1 _ hm) (by omega)
      · exact h'
    · intro hm
      rcases hp.2 (.inr hm) with rfl | h'
      · exact absurd (h2.1 _ hm) (by omega)
      · exact h'
/-- The first k numbers are less. -/
def LowTo (xs : List Int) (x : Int) (k : Nat) : Prop := ∀ j, j < k → xs.getD j 0 < x
theorem lowTo_zero (xs : List Int) (x : Int) : LowTo xs x 0 := fun j h => by omega
theorem lowTo_step {xs : List Int} {x y : Int} {k : Nat} (h : LowTo xs x k) (_hk : k < xs.length) (hy : xs.getD k 0 = y) (hl : y < x) : LowTo xs x (k + 1) := fun j hj => by
  rcases Nat.lt_or_ge j k with h1 | h1
  · exact h j h1
  · obtain rfl : j = k := by omega
    rw [hy]; exact hl
theorem lowTo_end {xs : List Int} {x : Int} : ∀ {k : Nat}, LowTo xs x k → (k < xs.length → ¬ xs.getD k 0 < x) → xs.take k = xs.takeWhile (fun y => decide (y < x)) ∧ xs.drop k = xs.dropWhile (fun y => decide (y < x)) := by
  induction xs with
  | nil => intro k _ _; simp
  | cons a xs ih =>
    intro k h he
    cases k with
    | zero =>
      have := he (by simp)
      simp only [List.getD_cons_zero] at this
      simp [this]
    | succ k =>
      have ha := h 0 (by omega)
      simp only [List.getD_cons_zero] at ha
      have := ih (k := k) (fun j hj => by have := h (j + 1) (by omega); simpa using this) (fun hq => by have := he (by simp; omega); simpa using this)
      simp [ha, this.1, this.2]
end Go.Proofs.Ytihhlldpdfihfaa
