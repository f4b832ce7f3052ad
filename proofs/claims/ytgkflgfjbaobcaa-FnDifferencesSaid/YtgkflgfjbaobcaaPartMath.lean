/- Plain mathematics of a part of a chart. -/
import Derived.Test.YtgkflgfjbaobcaaRunMath
namespace Go.Proofs.Ytgkflgfjbaobcaa
open Go.RowKit

/-- The knots of a part. -/
def partL (m : Nat) (xs : List Int) (r c h k : Nat) : List Int := (List.range (h * k)).map fun q => elt m xs (r + q / k) (c + q % k)
theorem partL_len (m : Nat) (xs : List Int) (r c h k : Nat) : (partL m xs r c h k).length = h * k := by simp [partL]
theorem partL_take {m : Nat} {xs : List Int} {r c h k i j : Nat} (hi : i < h) (hj : j < k) :
    (partL m xs r c h k).take (i * k + j + 1) = (partL m xs r c h k).take (i * k + j) ++ [elt m xs (r + i) (c + j)] := by
  have hlt : i * k + j < (partL m xs r c h k).length := by
    rw [partL_len]
    have : (i + 1) * k ≤ h * k := Nat.mul_le_mul_right _ hi
    rw [Nat.succ_mul] at this
    omega
  rw [List.take_succ_eq_append_getElem hlt]
  congr 2
  simp only [partL, List.getElem_map, List.getElem_range]
  rw [Nat.mul_comm i k, Nat.mul_add_div (by omega), Nat.div_eq_of_lt hj, Nat.add_zero, Nat.mul_add_mod, Nat.mod_eq_of_lt hj]
theorem partL_all {m : Nat} {xs : List Int} {r c h k : Nat} : (partL m xs r c h k).take (h * k) = partL m xs r c h k := List.take_of_length_le (by rw [partL_len]; exact Nat.le_refl _)
theorem take_len {l : List Int} {n : Nat} (h : n ≤ l.length) : (l.take n).length = n := by rw [List.length_take]; omega
end Go.Proofs.Ytgkflgfjbaobcaa
