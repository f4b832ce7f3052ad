/- The walks of what tests lots and assignments, both texts. Condition: the sizes are those of a chart, the lots are valid where the function asks so. -/
import Derived.Test.YtgahompcejbjoaaCloneI
import Derived.Test.YtgahompcejbjoaaPickI
import Derived.Test.YtgahompcejbjoaaFill
namespace Go.Proofs.Ytgahompcejbjoaa
open Go.RowKit

def lotB (x : Int) : Bool := decide (1 ≤ x ∧ x ≤ 100)
def lotsB (lots : List Int) : Bool := inB lots.length 1 6 && lots.all lotB
theorem lotsB_yes {lots : List Int} (h : lotsB lots = true) : 1 ≤ lots.length ∧ lots.length ≤ 6 ∧ ∀ x ∈ lots, 1 ≤ x ∧ x ≤ 100 := by
  simp only [lotsB, Bool.and_eq_true, List.all_eq_true] at h
  have h1 := inB_yes h.1
  exact ⟨by omega, by omega, fun x hx => of_decide_eq_true (h.2 x hx)⟩
theorem lots_min_max {lots : List Int} (h : 0 < lots.length) : (decide (1 ≤ Lib.minOf lots) && decide (Lib.maxOf lots ≤ 100)) = lots.all lotB := by
  obtain ⟨h1, i, hi, hii⟩ := minOf_prop lots lots.length h (Nat.le_refl _)
  obtain ⟨h2, j, hj, hjj⟩ := maxOf_prop lots lots.length h (Nat.le_refl _)
  rw [List.take_length] at h1 hii h2 hjj
  rw [Bool.eq_iff_iff]
  simp only [Bool.and_eq_true, decide_eq_true_eq, List.all_eq_true, lotB]
  constructor
  · rintro ⟨g1, g2⟩ x hx
    obtain ⟨q, hq, rfl⟩ := List.mem_iff_getElem.1 hx
    have e1 := h1 q hq
    have e2 := h2 q hq
    rw [getD_at hq] at e1 e2
    omega
  · intro g
    rw [getD_at hi] at hii
    rw [getD_at hj] at hjj
    have e1 := g _ (List.getElem_mem hi)
    have e2 := g _ (List.getElem_mem hj)
    omega
/-- The lots are enough for the areas. -/
def fitG : List Int → List Int → List Int → Bool
  | _, _, [] => true
  | [], _, _ :: _ => false
  | s :: ss, left, k :: az => inB k 0 ((left.length : Int) - 1) && decide (s ≤ left.getD k.toNat 0) && fitG ss (left.set k.toNat (left.getD k.toNat 0 - s)) az
theorem fitG_end {sizes left az : List Int} {i : Nat} (h : az.length ≤ i) : fitG (sizes.drop i) left (az.drop i) = true := by
  rw [List.drop_of_length_le h]; simp [fitG]
theorem fitG_out {sizes left az : List Int} {i : Nat} (h : i < az.length) (hs : sizes.length ≤ i) : fitG (sizes.drop i) left (az.drop i) = false := by
  rw [List.drop_of_length_le hs, List.drop_eq_getElem_cons h]; rfl
theorem fitG_step {sizes left az : List Int} {i : Nat} {s k : Int} (h : i < az.length) (hs : i < sizes.length) (es : sizes.getD i 0 = s) (ek : az.getD i 0 = k) :
    fitG (sizes.drop i) left (az.drop i) = (inB k 0 ((left.length : Int) - 1) && decide (s ≤ left.getD k.toNat 0) && fitG (sizes.drop (i + 1)) (left.set k.toNat (left.getD k.toNat 0 - s)) (az.drop (i + 1))) := by
  rw [List.drop_eq_getElem_cons h, List.drop_eq_getElem_cons hs, fitG, ← getD_at h, ← getD_at hs, es, ek]
end Go.Proofs.Ytgahompcejbjoaa
