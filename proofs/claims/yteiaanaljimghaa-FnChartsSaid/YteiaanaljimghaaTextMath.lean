/- Plain mathematics of a chart's text. -/
import Derived.Test.YteiaanaljimghaaChartMath
namespace Go.Proofs.Yteiaanaljimghaa
open Go.RowKit

/-- A color's letter. -/
def letter (x : Int) : UInt8 := UInt8.ofNat (97 + x.toNat)
theorem letter_nat {x : Int} (h : 0 ≤ x ∧ x < 6) : ((letter x).toNat : Int) = 97 + x := by
  unfold letter
  rw [UInt8.toNat_ofNat']
  omega
def slash (m i : Nat) : List UInt8 := if 0 < i ∧ i % m = 0 then [47] else []
/-- The text of the first i knots. -/
def tx (m : Nat) (xs : List Int) : Nat → List UInt8
  | 0 => []
  | i + 1 => tx m xs i ++ slash m i ++ [letter (xs.getD i 0)]
theorem tx_succ (m : Nat) (xs : List Int) (i : Nat) : tx m xs (i + 1) = tx m xs i ++ slash m i ++ [letter (xs.getD i 0)] := rfl
theorem tx_len (m : Nat) (xs : List Int) (i : Nat) : (tx m xs i).length ≤ 2 * i := by
  induction i with
  | zero => exact Nat.le_refl _
  | succ i ih =>
    rw [tx_succ, List.length_append, List.length_append]
    have : (slash m i).length ≤ 1 := by unfold slash; split <;> simp
    simp only [List.length_cons, List.length_nil]
    omega
/-- The text in the midst of a row. -/
def px (m : Nat) (xs : List Int) (r j : Nat) : List UInt8 := if j = 0 then tx m xs (r * m) ++ (if 0 < r then [47] else []) else tx m xs (r * m + j)
theorem px_len (m : Nat) (xs : List Int) (r j : Nat) : (px m xs r j).length ≤ 2 * (r * m + j) + 1 := by
  unfold px
  have := tx_len m xs (r * m)
  have := tx_len m xs (r * m + j)
  split
  · rw [List.length_append]; split <;> simp <;> omega
  · omega
theorem px_step {m r j : Nat} {xs : List Int} (hm : 0 < m) (hj : j < m) : px m xs r (j + 1) = px m xs r j ++ [letter (xs.getD (r * m + j) 0)] := by
  unfold px
  rw [if_neg (by omega), ← Nat.add_assoc, tx_succ]
  by_cases h : j = 0
  · subst h
    rw [if_pos rfl, Nat.add_zero]
    congr 2
    unfold slash
    rw [Nat.mul_mod_left]
    by_cases hr : 0 < r
    · rw [if_pos hr, if_pos ⟨Nat.mul_pos hr hm, rfl⟩]
    · rw [if_neg hr, if_neg (by intro g; have : r = 0 := by omega
                                subst this; simp at g)]
  · rw [if_neg h]
    have : slash m (r * m + j) = [] := by
      unfold slash
      rw [if_neg]
      intro g
      rw [Nat.add_comm, Nat.add_mul_mod_self_right, Nat.mod_eq_of_lt hj] at g
      omega
    rw [this, List.append_nil]
theorem px_end {m r : Nat} {xs : List Int} (hm : 0 < m) : px m xs r m = tx m xs ((r + 1) * m) := by
  unfold px
  rw [if_neg (by omega), Nat.succ_mul]
theorem px_start {m : Nat} {xs : List Int} : px m xs 0 0 = [] := by simp [px, tx]
def textC (W H : Int) (xs : List Int) : ByteArray := if goodB W H xs = true then ⟨(tx W.toNat xs xs.length).toArray⟩ else ⟨#[]⟩
end Go.Proofs.Yteiaanaljimghaa
