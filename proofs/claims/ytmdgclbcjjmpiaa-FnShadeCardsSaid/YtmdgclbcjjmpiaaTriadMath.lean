/- Triples of shades whose gaps are each a third of the wheel, but for some steps, as plain mathematics. No condition. -/
import Derived.Test.YtmdgclbcjjmpiaaNearMath
namespace Go.Proofs.Ytmdgclbcjjmpiaa
open Go.RowKit

def thirdB (wi : Int) (a b : ShadeR) : Bool := decide (8 - wi ≤ gapI a.f2 b.f2 ∧ gapI a.f2 b.f2 ≤ 8 + wi)
def triadB (wi : Int) (a b c : ShadeR) : Bool := thirdB wi a b && thirdB wi a c && thirdB wi b c
def kRows (wi : Int) (a b : ShadeR) : List ShadeR → List (List Int)
  | [] => []
  | c :: r => (if triadB wi a b c = true then [[a.f0, b.f0, c.f0]] else []) ++ kRows wi a b r
def jRows (wi : Int) (a : ShadeR) : List ShadeR → List (List Int)
  | [] => []
  | b :: r => kRows wi a b r ++ jRows wi a r
def iRows (wi : Int) : List ShadeR → List (List Int)
  | [] => []
  | a :: r => jRows wi a r ++ iRows wi r
theorem kRows_len (wi : Int) (a b : ShadeR) (l : List ShadeR) : (kRows wi a b l).length ≤ l.length ∧ ((kRows wi a b l).map List.length).sum ≤ 3 * l.length := by
  induction l with
  | nil => exact ⟨Nat.le_refl _, Nat.le_refl _⟩
  | cons c r ih =>
    rw [kRows]
    split
    · simp; omega
    · simp; omega
theorem jRows_len (wi : Int) (a : ShadeR) (l : List ShadeR) (n : Nat) (h : l.length ≤ n) : (jRows wi a l).length ≤ n * l.length ∧ ((jRows wi a l).map List.length).sum ≤ 3 * (n * l.length) := by
  induction l with
  | nil => exact ⟨Nat.zero_le _, Nat.zero_le _⟩
  | cons b r ih =>
    have h1 := kRows_len wi a b r
    have h2 := ih (by simp at h; omega)
    simp only [List.length_cons] at h
    rw [jRows, List.length_append, List.map_append, List.sum_append_nat, List.length_cons, Nat.mul_succ]
    omega
theorem iRows_len (wi : Int) (l : List ShadeR) (n : Nat) (h : l.length ≤ n) : (iRows wi l).length ≤ n * n * l.length ∧ ((iRows wi l).map List.length).sum ≤ 3 * (n * n * l.length) := by
  induction l with
  | nil => exact ⟨Nat.zero_le _, Nat.zero_le _⟩
  | cons a r ih =>
    simp only [List.length_cons] at h
    have h1 := jRows_len wi a r n (by omega)
    have h2 := ih (by omega)
    have h3 : n * r.length ≤ n * n := Nat.mul_le_mul_left _ (by omega)
    rw [iRows, List.length_append, List.map_append, List.sum_append_nat, List.length_cons, Nat.mul_succ]
    omega
theorem kRows_at {wi : Int} {a b c : ShadeR} {xs : List ShadeR} {k : Nat} (h : xs[k]? = some c) : kRows wi a b (xs.drop k) = (if triadB wi a b c = true then [[a.f0, b.f0, c.f0]] else []) ++ kRows wi a b (xs.drop (k + 1)) := by
  obtain ⟨hk, rfl⟩ := List.getElem?_eq_some_iff.1 h
  rw [List.drop_eq_getElem_cons hk, kRows]
theorem jRows_at {wi : Int} {a b : ShadeR} {xs : List ShadeR} {k : Nat} (h : xs[k]? = some b) : jRows wi a (xs.drop k) = kRows wi a b (xs.drop (k + 1)) ++ jRows wi a (xs.drop (k + 1)) := by
  obtain ⟨hk, rfl⟩ := List.getElem?_eq_some_iff.1 h
  rw [List.drop_eq_getElem_cons hk, jRows]
theorem iRows_at {wi : Int} {a : ShadeR} {xs : List ShadeR} {k : Nat} (h : xs[k]? = some a) : iRows wi (xs.drop k) = jRows wi a (xs.drop (k + 1)) ++ iRows wi (xs.drop (k + 1)) := by
  obtain ⟨hk, rfl⟩ := List.getElem?_eq_some_iff.1 h
  rw [List.drop_eq_getElem_cons hk, iRows]
theorem kRows_none (wi : Int) (a b : ShadeR) {xs : List ShadeR} {k : Nat} (h : xs.length ≤ k) : kRows wi a b (xs.drop k) = [] := by rw [List.drop_of_length_le h]; rfl
theorem jRows_none (wi : Int) (a : ShadeR) {xs : List ShadeR} {k : Nat} (h : xs.length ≤ k) : jRows wi a (xs.drop k) = [] := by rw [List.drop_of_length_le h]; rfl
theorem iRows_none (wi : Int) {xs : List ShadeR} {k : Nat} (h : xs.length ≤ k) : iRows wi (xs.drop k) = [] := by rw [List.drop_of_length_le h]; rfl
theorem third_far (wi : Int) (a b : ShadeR) : thirdB wi a b = decide (max (gapI a.f2 b.f2 - 8) (8 - gapI a.f2 b.f2) ≤ wi) := by
  unfold thirdB
  rw [Bool.eq_iff_iff]
  simp only [decide_eq_true_eq]
  omega
/-- Whether a list and a slack are answered, and with what. -/
noncomputable def triadOk (xs : List ShadeR) (wi : Int) : Bool := cardB xs && inB wi 0 4
noncomputable def triadX (xs : List ShadeR) (wi : Int) : List (List Int) := if triadOk xs wi = true then iRows wi xs else []
end Go.Proofs.Ytmdgclbcjjmpiaa
