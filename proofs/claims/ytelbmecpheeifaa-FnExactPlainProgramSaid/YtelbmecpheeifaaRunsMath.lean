/- A row of knots as runs, and the program that puts it together. No condition. -/
import Derived.Test.YtelbmecpheeifaaDesignMath
namespace Go.Proofs.Ytelbmecpheeifaa
open Go.RowKit

theorem takeW_len {p : Int → Bool} {ys : List Int} : ∀ {n : Nat}, n ≤ ys.length → (∀ j, j < n → p (ys.getD j 0) = true) → (n < ys.length → p (ys.getD n 0) = false) → (ys.takeWhile p).length = n := by
  induction ys with
  | nil => intro n hn _ _; simp at hn; subst hn; rfl
  | cons a ys ih =>
    intro n hn h1 h2
    cases n with
    | zero =>
      have := h2 (by simp)
      simp only [List.getD_cons_zero] at this
      simp [this]
    | succ n =>
      have ha := h1 0 (by omega)
      simp only [List.getD_cons_zero] at ha
      have := ih (n := n) (by simpa using hn) (fun j hj => by have := h1 (j + 1) (by omega); simpa using this) (fun hq => by have := h2 (by simp; omega); simpa using this)
      simp [ha, this]
/-- How many at the start are the same. -/
def runL (ys : List Int) : Nat := (ys.takeWhile fun y => y == ys.getD 0 0).length
theorem runL_eq {ys : List Int} {n : Nat} (hn : n ≤ ys.length) (h1 : ∀ j, j < n → ys.getD j 0 = ys.getD 0 0) (h2 : n < ys.length → ys.getD n 0 ≠ ys.getD 0 0) : runL ys = n :=
  takeW_len hn (fun j hj => by simpa using h1 j hj) (fun hq => by simpa using h2 hq)
theorem runL_pos {ys : List Int} (h : 0 < ys.length) : 1 ≤ runL ys ∧ runL ys ≤ ys.length := by
  refine ⟨?_, ?_⟩
  · cases ys with
    | nil => simp at h
    | cons a t => simp [runL]
  · have := congrArg List.length (List.takeWhile_append_dropWhile (p := fun y => y == ys.getD 0 0) (l := ys))
    rw [List.length_append] at this
    unfold runL
    omega
/-- The designs of the runs. -/
def plainGo : Nat → Bool → List Int → List DesignR
  | 0, _, _ => []
  | f + 1, first, ys => if ys = [] then [] else ⟨1, (runL ys : Int), 1, ys.getD 0 0⟩ :: ((if first = true then [] else [⟨4, 0, 0, 0⟩]) ++ plainGo f false (ys.drop (runL ys)))
theorem plainGo_nil (f : Nat) (b : Bool) : plainGo f b [] = [] := by cases f <;> simp [plainGo]
theorem plainGo_step {f : Nat} {b : Bool} {ys : List Int} (h : 0 < ys.length) (hf : ys.length ≤ f) :
    ∃ f', plainGo f b ys = ⟨1, (runL ys : Int), 1, ys.getD 0 0⟩ :: ((if b = true then [] else [⟨4, 0, 0, 0⟩]) ++ plainGo f' false (ys.drop (runL ys))) ∧ ys.length - runL ys ≤ f' := by
  cases f with
  | zero => omega
  | succ f =>
    refine ⟨f, ?_, by have := runL_pos h; omega⟩
    rw [plainGo, if_neg (by intro e; subst e; simp at h)]
theorem plainGo_len : ∀ (f : Nat) (b : Bool) (ys : List Int), (plainGo f b ys).length ≤ 2 * f
  | 0, _, _ => by simp [plainGo]
  | f + 1, b, ys => by
    rw [plainGo]
    split
    · simp
    · have := plainGo_len f false (ys.drop (runL ys))
      cases b <;> simp <;> omega
def plainB (W H : Int) (xs : List Int) : Bool := goodB W H xs && decide (H = 1)
def plainP (W H : Int) (xs : List Int) : List DesignR := if plainB W H xs = true then plainGo xs.length true xs else []
theorem plainP_len (W H : Int) (xs : List Int) : (plainP W H xs).length ≤ 1048576 := by
  unfold plainP
  split
  · next h =>
    simp only [plainB, Bool.and_eq_true] at h
    have h1 := (good_bd h.1).1
    have h2 := plainGo_len xs.length true xs
    omega
  · simp
/-- What is made at a start of a run. -/
structure PlainAt (xs : List Int) (s : Nat) (L : List DesignR) : Prop where
  tot : ∃ f, L ++ plainGo f (decide (s = 0)) (xs.drop s) = plainGo xs.length true xs ∧ xs.length - s ≤ f
  len : L.length ≤ 2 * s
  emp : L.length = 0 ↔ s = 0
theorem plainAt_zero (xs : List Int) : PlainAt xs 0 [] := ⟨⟨xs.length, by simp, by omega⟩, by simp, by simp⟩
theorem plainAt_end {xs : List Int} {s : Nat} {L : List DesignR} (h : PlainAt xs s L) (hs : xs.length ≤ s) : L = plainGo xs.length true xs := by
  obtain ⟨f, e, _⟩ := h.tot
  rw [List.drop_of_length_le hs, plainGo_nil, List.append_nil] at e
  exact e
theorem drop_getD (xs : List Int) (s : Nat) : (xs.drop s).getD 0 0 = xs.getD s 0 := by rw [List.getD_eq_getElem?_getD, List.getD_eq_getElem?_getD, List.getElem?_drop, Nat.add_zero]
/-- The first run. -/
theorem plainAt_first {xs : List Int} {L : List DesignR} (h : PlainAt xs 0 L) (hx : 0 < xs.length) {r : Nat} (hr : runL (xs.drop 0) = r) : PlainAt xs (0 + r) (L ++ [⟨1, r, 1, xs.getD 0 0⟩]) := by
  obtain ⟨f, e, hf⟩ := h.tot
  have hr0 := runL_pos (ys := xs.drop 0) (by simpa using hx)
  obtain ⟨f', e', hf'⟩ := plainGo_step (f := f) (b := decide (0 = 0)) (ys := xs.drop 0) (by simpa using hx) (by simpa using hf)
  rw [e', hr, drop_getD] at e
  rw [hr] at hf' hr0
  refine ⟨⟨f', ?_, by simp at hf'; omega⟩, by have := h.len; simp; omega, by simp; omega⟩
  rw [← e]
  simp [show ¬ r = 0 by omega]
theorem plainAt_next {xs : List Int} {s : Nat} {L : List DesignR} (h : PlainAt xs s L) (hs0 : 0 < s) (hx : s < xs.length) {r : Nat} (hr : runL (xs.drop s) = r) : PlainAt xs (s + r) (L ++ [⟨1, r, 1, xs.getD s 0⟩] ++ [⟨4, 0, 0, 0⟩]) := by
  obtain ⟨f, e, hf⟩ := h.tot
  have hl : (xs.drop s).length = xs.length - s := List.length_drop
  have hr0 := runL_pos (ys := xs.drop s) (by omega)
  obtain ⟨f', e', hf'⟩ := plainGo_step (f := f) (b := decide (s = 0)) (ys := xs.drop s) (by omega) (by omega)
  rw [e', hr, drop_getD] at e
  rw [hr] at hf' hr0
  refine ⟨⟨f', ?_, by omega⟩, by have := h.len; simp; omega, by simp; omega⟩
  rw [← e]
  simp [show ¬ s = 0 by omega, show ¬ r = 0 by omega, List.drop_drop]
end Go.Proofs.Ytelbmecpheeifaa
