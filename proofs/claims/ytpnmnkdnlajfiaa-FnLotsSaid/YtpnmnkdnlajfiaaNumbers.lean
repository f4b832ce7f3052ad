/- The walk of the program's numbersIn: the numbers of all areas out of their places. Condition: the places are those of the areas. -/
import Derived.Test.YtpnmnkdnlajfiaaAreasIn
namespace Go.Proofs.Ytpnmnkdnlajfiaa
open Go.RowKit

/-- A row of rows: its header. -/
theorem Own2.row {w : World} {lo n c i : Nat} {A : Option Addr} {ass : List (List Nat)} (h : Own2 w lo (.slice A n c) (ass.map upI)) (hi : i < ass.length) :
    ∃ g l A1 c1, A = some ⟨g, 0, none⟩ ∧ g < w.heap.size ∧ ass[i]? = some l ∧ w.cell? ⟨g, i, none⟩ = some (.slice A1 l.length c1) ∧ Own w lo (.slice A1 l.length c1) (upI l) := by
  obtain ⟨g, hd, ys, e, _, hgl, _, hc, ho, hy⟩ := h.at (i := i) (by simpa using hi)
  have hl : ass[i]? = some ass[i] := List.getElem?_eq_getElem hi
  have hy' := hy
  unfold Hid at hy'
  rw [List.getElem?_map, hl] at hy'
  simp at hy'
  subst hy'
  obtain ⟨A1, c1, rfl, _⟩ := ho.form
  rw [upI_len] at hc ho
  exact ⟨g, ass[i], A1, c1, e, hgl, hl, hc, ho⟩
/-- The numbers once a areas are done with, and j places of the next one. -/
def NumOk (m : Nat) (xs : List Int) (a : Nat) (l : List Nat) (L : List Int) : Prop := L.length = xs.length ∧ ∀ x, x < xs.length → (x ∈ l → L.getD x 0 = (a : Int)) ∧ (x ∉ l → (labsOf m xs).getD x 0 < (a : Int) → L.getD x 0 = (labsOf m xs).getD x 0)
theorem NumOk.put {m a y j : Nat} {xs L : List Int} {l : List Nat} (h : NumOk m xs a (l.take j) L) (hy : l[j]? = some y) (hyN : y < xs.length) : NumOk m xs a (l.take (j + 1)) (L.set y a) := by
  have hjl := (List.getElem?_eq_some_iff.1 hy).1
  have e : l.take (j + 1) = l.take j ++ [y] := by rw [List.take_add_one, hy]; rfl
  refine ⟨by rw [List.length_set]; exact h.1, fun x hx => ?_⟩
  rw [e]
  by_cases exy : x = y
  · subst exy
    refine ⟨fun _ => ?_, fun g => absurd (by simp) g⟩
    rw [List.getD_eq_getElem?_getD, List.getElem?_set_self (by rw [h.1]; exact hx)]; rfl
  · rw [List.getD_eq_getElem?_getD, List.getElem?_set_ne (fun h => exy h.symm), ← List.getD_eq_getElem?_getD]
    obtain ⟨h1, h2⟩ := h.2 x hx
    refine ⟨fun g => h1 ?_, fun g => h2 fun g' => g (by simp [g'])⟩
    simpa [exy] using g
theorem NumOk.next {m a : Nat} {xs L : List Int} {l : List Nat} {ass : List (List Nat)} (h : NumOk m xs a l L) (hg : IsGrp m xs ass) (hl : ass[a]? = some l) : NumOk m xs (a + 1) [] L := by
  refine ⟨h.1, fun x hx => ⟨fun g => by simp at g, fun _ hlt => ?_⟩⟩
  obtain ⟨h1, h2⟩ := h.2 x hx
  have hm : x ∈ l ↔ x < xs.length ∧ (labsOf m xs).getD x 0 = (a : Int) := (hg.2.1 a l hl).2.1 x
  by_cases hxl : x ∈ l
  · rw [h1 hxl, (hm.1 hxl).2]
  · refine h2 hxl ?_
    have : (labsOf m xs).getD x 0 ≠ (a : Int) := fun e => hxl (hm.2 ⟨hx, e⟩)
    omega
theorem NumOk.end_ {m a : Nat} {xs L : List Int} {ass : List (List Nat)} (h : NumOk m xs a [] L) (hg : IsGrp m xs ass) (ha : ass.length ≤ a) : L = labsOf m xs := by
  have hl := hg.2.2.1
  refine List.ext_getElem (h.1.trans hl.symm) fun x hx hx' => ?_
  have h3 : (labsOf m xs).getD x 0 < ((cntOf m xs : Nat) : Int) := (hg.2.2.2.rng x (by rw [← h.1]; exact hx)).2
  have h4 := hg.1
  have h2 := (h.2 x (by rw [← h.1]; exact hx)).2 (by simp) (by omega)
  rw [getD_at hx, getD_at hx'] at h2
  exact h2
end Go.Proofs.Ytpnmnkdnlajfiaa
