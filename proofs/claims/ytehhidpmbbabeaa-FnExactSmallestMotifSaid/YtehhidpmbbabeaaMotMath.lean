/- SmallestMotif's chart as a function of the chart; the remainder's walk facts. -/
import Derived.Test.YtehhidpmbbabeaaTileMath
import Derived.Test.YtehhidpmbbabeaaPartMath
namespace Go.Proofs.Ytehhidpmbbabeaa

def gA (m k : Nat) (xs : List Int) (p : Nat) : Bool := decide (m % p = 0) && acrossB m k xs p
def gD (m k : Nat) (xs : List Int) (p : Nat) : Bool := decide (k % p = 0) && downB m k xs p
theorem gA_last {m k : Nat} {xs : List Int} : gA m k xs m = true := by simp [gA, across_all]
theorem divA_is (m k : Nat) (xs : List Int) : firstP (gA m k xs) (m - 1) 1 = divA m k xs := rfl
theorem divD_is (m k : Nat) (xs : List Int) : firstP (gD m k xs) (k - 1) 1 = divD m k xs := rfl
theorem remN (a q : Nat) : Int.tmod (a : Int) (q : Int) = ((a % q : Nat) : Int) := by
  rw [Int.tmod_eq_emod_of_nonneg (by omega)]; omega
def motX (W H : Int) (xs : List Int) : List Int := if goodB W H xs = true then partL W.toNat xs 0 0 (divD W.toNat H.toNat xs) (divA W.toNat H.toNat xs) else []
theorem motX_len (W H : Int) (xs : List Int) : (motX W H xs).length ≤ 1048576 := by
  unfold motX
  split
  · rename_i h
    obtain ⟨m, k, rfl, rfl, m1, m8, k1, k8, _⟩ := good_nat h
    simp only [Int.toNat_natCast]
    rw [partL_len]
    have h1 := divA_bd (m := m) (k := k) (xs := xs) m1
    have h2 := divD_bd (m := m) (k := k) (xs := xs) k1
    have := Nat.mul_le_mul (show divD m k xs ≤ 8 by omega) (show divA m k xs ≤ 8 by omega)
    omega
  · simp
end Go.Proofs.Ytehhidpmbbabeaa
