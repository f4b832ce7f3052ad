/- The walks of TurnChart, MirrorChart and MoveChart, the program's and the model's. No condition. -/
import Derived.Test.YtpmhnklmhfadlaaMoved
namespace Go.Proofs.Ytpmhnklmhfadlaa
open Go.RowKit

theorem turnX_len (W H : Int) (xs : List Int) : (if goodB W H xs = true then turnL W.toNat H.toNat xs else []).length ≤ 1048576 := by
  split
  · rename_i h
    obtain ⟨m, k, rfl, rfl, m1, m8, k1, k8, _⟩ := good_nat h
    have := Nat.mul_le_mul m8 k8
    have := Nat.mul_le_mul k8 m8
    simp only [Int.toNat_natCast]
    rw [turnL_len]
    omega
  · simp
theorem mirrorX_len (W H : Int) (xs : List Int) : (if goodB W H xs = true then mirrorL W.toNat H.toNat xs else []).length ≤ 1048576 := by
  split
  · rename_i h
    obtain ⟨m, k, rfl, rfl, m1, m8, k1, k8, _⟩ := good_nat h
    have := Nat.mul_le_mul m8 k8
    have := Nat.mul_le_mul k8 m8
    simp only [Int.toNat_natCast]
    rw [mirrorL_len]
    omega
  · simp
/-- A chart may be moved. -/
def moveOk (W H : Int) (xs : List Int) (s : Int) : Bool := goodB W H xs && isSymB s
def moveP (W H : Int) (xs : List Int) (s : Int) : Pic := (⟨W.toNat, H.toNat, xs⟩ : Pic).move s.toNat
theorem move_yes {W H : Int} {xs : List Int} {s : Int} (h : moveOk W H xs s = true) : goodB W H xs = true ∧ isSymB s = true := by simpa [moveOk] using h
theorem move_no {W H : Int} {xs : List Int} {s : Int} (h : ¬ moveOk W H xs s = true) : goodB W H xs = false ∨ (goodB W H xs = true ∧ isSymB s = false) := by
  simp only [moveOk] at h
  cases h1 : goodB W H xs <;> cases h2 : isSymB s <;> simp_all
theorem move_pic {m k : Nat} {xs : List Int} (hg : goodB m k xs = true) : (⟨m, k, xs⟩ : Pic).Ok := by
  obtain ⟨m', k', e1, e2, m1, m8, k1, k8, hl, _⟩ := good_nat hg
  obtain rfl : m = m' := by omega
  obtain rfl : k = k' := by omega
  exact ⟨m1, m8, k1, k8, hl.out⟩
theorem moveX_len (W H : Int) (xs : List Int) (s : Int) : (if moveOk W H xs s = true then ((⟨W.toNat, H.toNat, xs⟩ : Pic).move s.toNat).xs else []).length ≤ 1048576 := by
  split
  · rename_i h
    obtain ⟨hg, hq⟩ := move_yes h
    obtain ⟨m, k, rfl, rfl, _⟩ := good_nat hg
    have := ((move_pic hg).move s.toNat).len.1
    simp only [Int.toNat_natCast]
    omega
  · simp
end Go.Proofs.Ytpmhnklmhfadlaa
