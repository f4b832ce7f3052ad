/- Plain mathematics of colors that were swapped. No condition. -/
import Derived.Test.YtgkflgfjbaobcaaChX
import Derived.Test.YtgkflgfjbaobcaaPlaceMath
namespace Go.Proofs.Ytgkflgfjbaobcaa
open Go.RowKit

/-- The colors with the number q met within p places. -/
def metTo (xs ys : List Int) (p q : Nat) : Bool := (List.range p).any fun j => (xs.getD j 0 == ((q / 6 : Nat) : Int)) && (ys.getD j 0 == ((q % 6 : Nat) : Int))
theorem metTo_zero (xs ys : List Int) (q : Nat) : metTo xs ys 0 q = false := by simp [metTo]
theorem metTo_succ (xs ys : List Int) (p q : Nat) : metTo xs ys (p + 1) q = (metTo xs ys p q || ((xs.getD p 0 == ((q / 6 : Nat) : Int)) && (ys.getD p 0 == ((q % 6 : Nat) : Int)))) := by
  unfold metTo
  rw [List.range_succ, List.any_append]
  simp
theorem metTo_nat {xs ys : List Int} {p x y : Nat} (hx : xs.getD p 0 = (x : Int)) (hy : ys.getD p 0 = (y : Int)) (hy6 : y < 6) : (fun q => metTo xs ys p q || (q == x * 6 + y)) = metTo xs ys (p + 1) := by
  funext q
  rw [metTo_succ, hx, hy]
  congr 1
  rw [Bool.eq_iff_iff, Bool.and_eq_true, beq_iff_eq, beq_iff_eq, beq_iff_eq]
  omega
def mtC (M : Nat → Bool) : Array Value := ((List.range 36).map fun q => Value.bool (M q)).toArray
theorem mtC_size (M : Nat → Bool) : (mtC M).size = 36 := by simp [mtC]
theorem mtC_get (M : Nat → Bool) {q : Nat} (h : q < 36) : (mtC M)[q]? = some (.bool (M q)) := by simp [mtC, h]
theorem mtC_set (M : Nat → Bool) (i : Nat) : (mtC M).setIfInBounds i (.bool true) = mtC (fun q => M q || (q == i)) := by
  apply Array.ext
  · simp [mtC]
  · intro j h1 h2
    have hj : j < 36 := by simpa [mtC] using h2
    rw [Array.getElem_setIfInBounds (by simpa [mtC] using hj)]
    by_cases e : i = j
    · subst e
      simp [mtC]
    · have e' : ¬ j = i := fun h => e h.symm
      simp [mtC, e, e']
/-- The pairs with numbers below n. -/
def swTo (M : Nat → Bool) (n : Nat) : List PairR := ((List.range n).filter fun q => M q && decide (¬ q / 6 = q % 6)).map fun q => ⟨((q / 6 : Nat) : Int), ((q % 6 : Nat) : Int)⟩
theorem swTo_zero (M : Nat → Bool) : swTo M 0 = [] := rfl
theorem swTo_yes {M : Nat → Bool} {n a b : Nat} (ha : n / 6 = a) (hb : n % 6 = b) (h : M n = true) (hne : ¬ a = b) : swTo M (n + 1) = swTo M n ++ [⟨(a : Int), (b : Int)⟩] := by
  unfold swTo
  rw [List.range_succ, List.filter_append, List.map_append, List.filter_cons, if_pos (by rw [h, ha, hb]; simpa using hne)]
  rw [show (List.filter _ [] : List Nat) = [] from rfl, List.map_cons, List.map_nil, ha, hb]
theorem swTo_no {M : Nat → Bool} {n a b : Nat} (ha : n / 6 = a) (hb : n % 6 = b) (h : M n = false ∨ a = b) : swTo M (n + 1) = swTo M n := by
  unfold swTo
  rw [List.range_succ, List.filter_append, List.map_append, List.filter_cons, if_neg (by rw [ha, hb]; rcases h with h | h <;> simp [h])]
  simp
theorem swTo_len (M : Nat → Bool) (n : Nat) : (swTo M n).length ≤ n := by
  unfold swTo
  rw [List.length_map]
  exact Nat.le_trans (List.length_filter_le _ _) (by simp)
theorem div6 {a b : Nat} (h : b < 6) : (a * 6 + b) / 6 = a ∧ (a * 6 + b) % 6 = b := by omega
def swX (W0 H0 : Int) (xs0 : List Int) (W1 H1 : Int) (xs1 : List Int) : List PairR := if sizeB W0 H0 xs0 W1 H1 xs1 = true then swTo (metTo xs0 xs1 xs0.length) 36 else []
theorem swX_no {W0 H0 W1 H1 : Int} {xs0 xs1 : List Int} (h : sizeB W0 H0 xs0 W1 H1 xs1 = false) : swX W0 H0 xs0 W1 H1 xs1 = [] := if_neg (by rw [h]; decide)
theorem swX_yes {W0 H0 W1 H1 : Int} {xs0 xs1 : List Int} (h : sizeB W0 H0 xs0 W1 H1 xs1 = true) : swX W0 H0 xs0 W1 H1 xs1 = swTo (metTo xs0 xs1 xs0.length) 36 := if_pos h
theorem swX_len {W0 H0 W1 H1 : Int} {xs0 xs1 : List Int} : (swX W0 H0 xs0 W1 H1 xs1).length ≤ 36 := by
  unfold swX
  split
  · exact swTo_len _ _
  · simp
theorem col_nat {xs : List Int} {p : Nat} (h : ∀ x ∈ xs, 0 ≤ x ∧ x < 6) (hp : p < xs.length) : ∃ v : Nat, v < 6 ∧ Hid (xs.getD p 0 = (v : Int)) := by
  have := h _ (List.getElem_mem hp)
  rw [← getD_at hp] at this
  obtain ⟨v, hv⟩ := Int.eq_ofNat_of_zero_le this.1
  exact ⟨v, by omega, hv⟩
end Go.Proofs.Ytgkflgfjbaobcaa
