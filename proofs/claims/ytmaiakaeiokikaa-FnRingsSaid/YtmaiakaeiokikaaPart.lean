/- The walks of PartOf, the program's and the model's, and of what they call. No condition. -/
import Derived.Test.YtmaiakaeiokikaaRun
import Derived.Test.YtmaiakaeiokikaaCopy
import Derived.Test.YtmaiakaeiokikaaStep
import Derived.Test.YtmaiakaeiokikaaPartMath
namespace Go.Proofs.Ytmaiakaeiokikaa
open Go.RowKit

def partOk (W H : Int) (xs : List Int) (row col h k : Int) : Bool := goodB W H xs && withinB W H row col h k
theorem fits_spec {W H : Int} {xs : List Int} {row col h k : Int} : partOk W H xs row col h k = (knotOk W H xs row col && inB h 1 (H - row) && inB k 1 (W - col)) := by
  rw [Bool.eq_iff_iff]
  simp [partOk, knotOk, withinB, inB, and_assoc]
  intro _ _ _
  exact ⟨fun h => by omega, fun h => by omega⟩
def partX (W H : Int) (xs : List Int) (row col h k : Int) : List Int := if partOk W H xs row col h k = true then partL W.toNat xs row.toNat col.toNat h.toNat k.toNat else []
/-- A part that fits, in natural numbers. -/
theorem part_nat {W H : Int} {xs : List Int} {row col h k : Int} (hp : partOk W H xs row col h k = true) :
    ∃ m kk r c h' k' : Nat, W = m ∧ H = kk ∧ row = r ∧ col = c ∧ h = h' ∧ k = k' ∧ goodB m kk xs = true ∧ 1 ≤ m ∧ m ≤ 8 ∧ kk ≤ 8 ∧ Hid (xs.length = m * kk) ∧ m * kk ≤ 64 ∧ xs.length ≤ 64 ∧ 1 ≤ xs.length ∧ r + h' ≤ kk ∧ c + k' ≤ m ∧ 1 ≤ h' ∧ 1 ≤ k' := by
  have hg : goodB W H xs = true := by simp [partOk] at hp; exact hp.1
  have hw : withinB W H row col h k = true := by simp [partOk] at hp; exact hp.2
  obtain ⟨m, kk, rfl, rfl, m1, m8, k1, k8, hl, h64, hl1, _⟩ := good_nat hg
  obtain ⟨r0, c0, h0, k0, rh, ck⟩ := withinB_yes hw
  obtain ⟨r, rfl⟩ := Int.eq_ofNat_of_zero_le r0
  obtain ⟨c, rfl⟩ := Int.eq_ofNat_of_zero_le c0
  obtain ⟨h', rfl⟩ := Int.eq_ofNat_of_zero_le (show 0 ≤ h by omega)
  obtain ⟨k', rfl⟩ := Int.eq_ofNat_of_zero_le (show 0 ≤ k by omega)
  exact ⟨m, kk, r, c, h', k', rfl, rfl, rfl, rfl, rfl, rfl, hg, m1, m8, k8, hl, by have := hl.out; omega, h64, hl1, by omega, by omega, by omega, by omega⟩
theorem part_le {m kk r c h k : Nat} (h64 : m * kk ≤ 64) (hrh : r + h ≤ kk) (hck : c + k ≤ m) : h * k ≤ 64 := by
  have : h * k ≤ kk * m := Nat.mul_le_mul (by omega) (by omega)
  rw [Nat.mul_comm kk m] at this
  omega
theorem partX_len (W H : Int) (xs : List Int) (row col h k : Int) : (partX W H xs row col h k).length ≤ 1048576 := by
  unfold partX
  split
  · rename_i hp
    obtain ⟨m, kk, r, c, h', k', rfl, rfl, rfl, rfl, rfl, rfl, _, _, _, _, _, h64, _, _, hrh, hck, _⟩ := part_nat hp
    rw [partL_len]
    have := part_le h64 hrh hck
    simp only [Int.toNat_natCast]
    omega
  · simp
end Go.Proofs.Ytmaiakaeiokikaa
