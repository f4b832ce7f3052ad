/- The numbers of the areas are there for every chart. No condition. -/
import Derived.Test.YtpnmnkdnlajfiaaAreaMath
namespace Go.Proofs.Ytpnmnkdnlajfiaa
open Go.RowKit

open Classical in
theorem lab_exists (m : Nat) (xs : List Int) : ∀ i, i ≤ xs.length → ∃ (lab : Nat → Int) (n : Nat), Lab m xs lab n i
  | 0, _ => ⟨_, _, Lab.start m xs⟩
  | i + 1, hi => by
    obtain ⟨lab, n, h⟩ := lab_exists m xs i (by omega)
    rcases Int.lt_or_le (lab i) 0 with g | g
    · refine ⟨_, _, h.step (q := (List.range xs.length).filter fun x => decide (Rch m xs i x)) (by omega) g fun x => ?_⟩
      simp only [List.mem_filter, List.mem_range, decide_eq_true_eq]
      exact ⟨fun p => p.2, fun r => ⟨r.lt (by omega), r⟩⟩
    · exact ⟨lab, n, h.skip g⟩
theorem labs_is (m : Nat) (xs : List Int) : IsLabs m xs (labsOf m xs) (cntOf m xs) := by
  obtain ⟨lab, n, h⟩ := lab_exists m xs xs.length (Nat.le_refl _)
  have hI := labs_of_lab (L := (List.range xs.length).map lab) h (Nat.le_refl _) (by simp) (fun x hx => by simp [List.getD_eq_getElem?_getD, List.getElem?_range hx])
  have he := labs_eq hI
  rw [← he.1, ← he.2]
  exact hI
theorem labs_len (m : Nat) (xs : List Int) : (labsOf m xs).length = xs.length := (labs_is m xs).1
theorem cnt_le (m : Nat) (xs : List Int) : cntOf m xs ≤ xs.length := by
  obtain ⟨lab, n, h⟩ := lab_exists m xs xs.length (Nat.le_refl _)
  have hI := labs_of_lab (L := (List.range xs.length).map lab) h (Nat.le_refl _) (by simp) (fun x hx => by simp [List.getD_eq_getElem?_getD, List.getElem?_range hx])
  rw [← (labs_eq hI).2]
  exact h.le
/-- The number of a place's area. -/
noncomputable def labAt (m : Nat) (xs : List Int) (x : Nat) : Int := (labsOf m xs).getD x 0
theorem labAt_rng {m x : Nat} {xs : List Int} (hx : x < xs.length) : 0 ≤ labAt m xs x ∧ labAt m xs x < (cntOf m xs : Nat) := (labs_is m xs).2.rng x hx
theorem labAt_iff {m x y : Nat} {xs : List Int} (hx : x < xs.length) (hy : y < xs.length) : labAt m xs x = labAt m xs y ↔ Rch m xs x y := (labs_is m xs).2.iff x hx y hy
theorem labAt_all {m : Nat} {xs : List Int} {a : Nat} (ha : a < cntOf m xs) : ∃ x, x < xs.length ∧ labAt m xs x = (a : Int) := (labs_is m xs).2.all a (by omega) (by omega)
theorem labAt_col {m x y : Nat} {xs : List Int} (hx : x < xs.length) (hy : y < xs.length) (h : labAt m xs x = labAt m xs y) : xs.getD x 0 = xs.getD y 0 := ((labAt_iff hx hy).1 h).col
end Go.Proofs.Ytpnmnkdnlajfiaa
