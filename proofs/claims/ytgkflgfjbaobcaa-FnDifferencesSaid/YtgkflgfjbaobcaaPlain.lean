/- The walks of PlainChart, the program's and the model's. No condition. -/
import Derived.Test.YtgkflgfjbaobcaaChart
namespace Go.Proofs.Ytgkflgfjbaobcaa
open Go.RowKit

def plainOk (W H k : Int) : Bool := isSideB W && isSideB H && isColorB k
def plainL (W H k : Int) : List Int := if plainOk W H k = true then List.replicate (W.toNat * H.toNat) k else []
theorem plainL_len (W H k : Int) : (plainL W H k).length ≤ 1048576 := by
  unfold plainL
  split
  · rename_i h
    simp only [plainOk, Bool.and_eq_true] at h
    have h1 := isSideB_yes h.1.1
    have h2 := isSideB_yes h.1.2
    rw [List.length_replicate]
    have : W.toNat * H.toNat ≤ 8 * 8 := Nat.mul_le_mul (by omega) (by omega)
    omega
  · simp
theorem rep_step {k : Int} {n j : Nat} {ys : List Int} (hj : j < n) (hl : ys.length = n) (h : ys.take j = List.replicate j k) : (ys.set j k).take (j + 1) = List.replicate (j + 1) k := by
  have := fill_step (xs := List.replicate n k) (ys := ys) (k := j) (x := k) (by rw [getD_at (by simpa using hj)]; simp) (by simpa using hj) (by simpa using hl) (by rw [List.take_replicate, Nat.min_eq_left (by omega)]; exact h)
  rwa [List.take_replicate, Nat.min_eq_left (by omega)] at this

theorem plain_no {m k q : Int} (h : ¬ plainOk m k q = true) : isSideB m = false ∨ (isSideB m = true ∧ isSideB k = false) ∨ (isSideB m = true ∧ isSideB k = true ∧ isColorB q = false) := by
  simp only [plainOk] at h
  cases h1 : isSideB m <;> cases h2 : isSideB k <;> cases h3 : isColorB q <;> simp_all
theorem rep_snoc (q : Int) (j : Nat) : List.replicate j q ++ [q] = List.replicate (j + 1) q := by
  rw [List.replicate_succ']
theorem plain_yes {m k q : Int} (h : plainOk m k q = true) : ∃ m' k' : Nat, m = m' ∧ k = k' ∧ isSideB m = true ∧ isSideB k = true ∧ isColorB q = true := by
  simp only [plainOk, Bool.and_eq_true] at h
  have h1 := isSideB_yes h.1.1
  have h2 := isSideB_yes h.1.2
  obtain ⟨m', rfl⟩ := Int.eq_ofNat_of_zero_le (show 0 ≤ m by omega)
  obtain ⟨k', rfl⟩ := Int.eq_ofNat_of_zero_le (show 0 ≤ k by omega)
  exact ⟨m', k', rfl, rfl, h.1.1, h.1.2, h.2⟩
end Go.Proofs.Ytgkflgfjbaobcaa
