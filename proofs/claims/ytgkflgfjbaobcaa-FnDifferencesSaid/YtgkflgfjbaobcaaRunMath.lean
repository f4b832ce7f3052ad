/- Plain mathematics of the longest run. -/
import Derived.Test.YtgkflgfjbaobcaaChartMath
namespace Go.Proofs.Ytgkflgfjbaobcaa
open Go.RowKit

/-- The run that ends in front of place k. -/
def cur (e : Nat → Int) : Nat → Int
  | 0 => 0
  | k + 1 => if 0 < k ∧ e k = e (k - 1) then cur e k + 1 else 1
/-- The longest run in front of place k. -/
def best (e : Nat → Int) : Nat → Int
  | 0 => 0
  | k + 1 => max (best e k) (cur e (k + 1))
theorem cur_succ (e : Nat → Int) (k : Nat) : cur e (k + 1) = if 0 < k ∧ e k = e (k - 1) then cur e k + 1 else 1 := rfl
theorem best_succ (e : Nat → Int) (k : Nat) : best e (k + 1) = max (best e k) (cur e (k + 1)) := rfl
theorem cur_bd (e : Nat → Int) (k : Nat) : 0 ≤ cur e k ∧ cur e k ≤ k := by
  induction k with
  | zero => exact ⟨Int.le_refl _, Int.le_refl _⟩
  | succ k ih => unfold cur; split <;> omega
theorem best_bd (e : Nat → Int) (k : Nat) : 0 ≤ best e k ∧ best e k ≤ k := by
  induction k with
  | zero => exact ⟨Int.le_refl _, Int.le_refl _⟩
  | succ k ih => have := cur_bd e (k + 1); unfold best; omega
theorem cur_congr {e e' : Nat → Int} {n : Nat} (h : ∀ j, j < n → e j = e' j) : ∀ k, k ≤ n → cur e k = cur e' k := by
  intro k
  induction k with
  | zero => intro _; rfl
  | succ k ih =>
    intro hk
    unfold cur
    rw [h k (by omega), h (k - 1) (by omega), ih (by omega)]
theorem best_congr {e e' : Nat → Int} {n : Nat} (h : ∀ j, j < n → e j = e' j) : ∀ k, k ≤ n → best e k = best e' k := by
  intro k
  induction k with
  | zero => intro _; rfl
  | succ k ih =>
    intro hk
    unfold best
    rw [ih (by omega), cur_congr h (k + 1) hk]
/-- A chart's knot. -/
def elt (m : Nat) (xs : List Int) (r j : Nat) : Int := xs.getD (r * m + j) 0
/-- The longest run of the first r rows. -/
def mostR (m : Nat) (xs : List Int) : Nat → Int
  | 0 => 0
  | r + 1 => max (mostR m xs r) (best (elt m xs r) m)
/-- The first row that has it. -/
def atR (m : Nat) (xs : List Int) : Nat → Int
  | 0 => 0
  | r + 1 => if mostR m xs r < best (elt m xs r) m then r else atR m xs r
theorem mostR_bd (m : Nat) (xs : List Int) (r : Nat) : 0 ≤ mostR m xs r ∧ mostR m xs r ≤ m := by
  induction r with
  | zero => exact ⟨Int.le_refl _, by unfold mostR; omega⟩
  | succ r ih => have := best_bd (elt m xs r) m; unfold mostR; omega
theorem atR_bd (m : Nat) (xs : List Int) (r : Nat) : 0 ≤ atR m xs r ∧ atR m xs r ≤ r := by
  induction r with
  | zero => exact ⟨Int.le_refl _, Int.le_refl _⟩
  | succ r ih => unfold atR; split <;> omega
theorem row_elt {m r : Nat} {xs : List Int} : best (fun j => (rowL m r xs).getD j 0) m = best (elt m xs r) m :=
  best_congr (n := m) (fun _ hj => rowL_get hj) m (Nat.le_refl _)
def runN (W H : Int) (xs : List Int) : Int := if goodB W H xs = true then mostR W.toNat xs H.toNat else 0
def runR (W H : Int) (xs : List Int) : Int := if goodB W H xs = true then atR W.toNat xs H.toNat else 0
end Go.Proofs.Ytgkflgfjbaobcaa
