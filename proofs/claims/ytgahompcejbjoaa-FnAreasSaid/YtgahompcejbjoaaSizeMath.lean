/- The sizes and the colors of areas. No condition. -/
import Derived.Test.YtgahompcejbjoaaAreaIs
namespace Go.Proofs.Ytgahompcejbjoaa
open Go.RowKit

/-- How many of the first i places lie in area a. -/
noncomputable def cntTo (m : Nat) (xs : List Int) (a i : Nat) : Nat := ((labsOf m xs).take i).count (a : Int)
noncomputable def szA (m : Nat) (xs : List Int) (a : Nat) : Nat := (labsOf m xs).count (a : Int)
open Classical in
noncomputable def colA (m : Nat) (xs : List Int) (a : Nat) : Int := if h : ∃ x, x < xs.length ∧ labAt m xs x = (a : Int) then xs.getD (Classical.choose h) 0 else 0
theorem colA_eq {m a x : Nat} {xs : List Int} (hx : x < xs.length) (ha : labAt m xs x = (a : Int)) : colA m xs a = xs.getD x 0 := by
  have h : ∃ x, x < xs.length ∧ labAt m xs x = (a : Int) := ⟨x, hx, ha⟩
  unfold colA
  rw [dif_pos h]
  have hs := Classical.choose_spec h
  exact labAt_col hs.1 hx (hs.2.trans ha.symm)
theorem cntTo_zero (m : Nat) (xs : List Int) (a : Nat) : cntTo m xs a 0 = 0 := by simp [cntTo]
theorem cntTo_succ {m a i : Nat} {xs : List Int} (hi : i < xs.length) : cntTo m xs a (i + 1) = cntTo m xs a i + if labAt m xs i = (a : Int) then 1 else 0 := by
  have hl : i < (labsOf m xs).length := by rw [labs_len]; exact hi
  unfold cntTo labAt
  rw [List.take_succ_eq_append_getElem hl, List.count_append, getD_at hl, List.count_singleton]
  simp
theorem cntTo_end {m a i : Nat} {xs : List Int} (hi : xs.length ≤ i) : cntTo m xs a i = szA m xs a := by
  unfold cntTo szA
  rw [List.take_of_length_le (by rw [labs_len]; exact hi)]
theorem cntTo_le (m a i : Nat) (xs : List Int) : cntTo m xs a i ≤ xs.length := by
  unfold cntTo
  have h1 := List.count_le_length (a := (a : Int)) (l := (labsOf m xs).take i)
  have h2 : ((labsOf m xs).take i).length ≤ (labsOf m xs).length := by rw [List.length_take]; omega
  rw [labs_len] at h2
  omega
theorem szA_le (m a : Nat) (xs : List Int) : szA m xs a ≤ xs.length := by
  rw [← cntTo_end (Nat.le_refl _)]; exact cntTo_le _ _ _ _
theorem nodup_perm_len {l l' : List Nat} (h : l.Nodup) (h' : l'.Nodup) (he : ∀ x, x ∈ l ↔ x ∈ l') : l.length = l'.length := by
  induction l generalizing l' with
  | nil =>
    cases l' with
    | nil => rfl
    | cons a l' => exact absurd ((he a).2 (by simp)) (by simp)
  | cons a l ih =>
    have ha : a ∈ l' := (he a).1 (by simp)
    obtain ⟨hal, hl⟩ := List.nodup_cons.1 h
    have := ih hl (h'.erase a) (fun x => by
      rw [h'.mem_erase_iff, ← he x, List.mem_cons]
      constructor
      · intro hx
        exact ⟨fun e => hal (e ▸ hx), .inr hx⟩
      · rintro ⟨h1, h2 | h2⟩
        · exact absurd h2 h1
        · exact h2)
    rw [List.length_cons, this, List.length_erase_of_mem ha]
    have := List.length_pos_of_mem ha
    omega
/-- The places of an area are as many as its size. -/
theorem len_of_area {m a : Nat} {xs : List Int} {l : List Nat} (hd : l.Nodup) (hl : ∀ x, x ∈ l ↔ x < xs.length ∧ labAt m xs x = (a : Int)) : l.length = szA m xs a := by
  have key : ∀ i, i ≤ xs.length → cntTo m xs a i = ((List.range i).filter fun x => decide (labAt m xs x = (a : Int))).length := by
    intro i
    induction i with
    | zero => intro _; simp [cntTo]
    | succ i ih =>
      intro hi
      rw [cntTo_succ (by omega), ih (by omega), List.range_succ, List.filter_append, List.length_append]
      by_cases e : labAt m xs i = (a : Int) <;> simp [e]
  rw [← cntTo_end (Nat.le_refl _), key _ (Nat.le_refl _)]
  refine nodup_perm_len hd (List.nodup_iff_pairwise_ne.2 (List.Pairwise.filter _ (List.nodup_iff_pairwise_ne.1 List.nodup_range))) fun x => ?_
  rw [hl x]
  simp
/-- The sizes of the areas with a color among the first a ones. -/
noncomputable def sizesTo (m : Nat) (xs : List Int) (color : Int) (a : Nat) : List Int := ((List.range a).filter fun a => decide (colA m xs a = color)).map fun (a : Nat) => ((szA m xs a : Nat) : Int)
theorem sizesTo_zero (m : Nat) (xs : List Int) (color : Int) : sizesTo m xs color 0 = [] := rfl
theorem sizesTo_yes {m a : Nat} {xs : List Int} {color : Int} (h : colA m xs a = color) : sizesTo m xs color (a + 1) = sizesTo m xs color a ++ [((szA m xs a : Nat) : Int)] := by
  unfold sizesTo
  rw [List.range_succ, List.filter_append, List.map_append, List.filter_cons, if_pos (by simp [h])]
  rfl
theorem sizesTo_no {m a : Nat} {xs : List Int} {color : Int} (h : ¬ colA m xs a = color) : sizesTo m xs color (a + 1) = sizesTo m xs color a := by
  unfold sizesTo
  rw [List.range_succ, List.filter_append, List.map_append, List.filter_cons, if_neg (by simp [h])]
  simp
theorem sizesTo_len (m : Nat) (xs : List Int) (color : Int) (a : Nat) : (sizesTo m xs color a).length ≤ a := by
  unfold sizesTo
  rw [List.length_map]
  exact Nat.le_trans (List.length_filter_le _ _) (by simp)
noncomputable def sizesL (m : Nat) (xs : List Int) (color : Int) : List Int := sizesTo m xs color (cntOf m xs)
def sizesOk (W H : Int) (xs : List Int) (color : Int) : Bool := goodB W H xs && isColorB color
noncomputable def sizesX (W H : Int) (xs : List Int) (color : Int) : List Int := if sizesOk W H xs color = true then sizesL W.toNat xs color else []
theorem sizesX_yes {m k : Nat} {xs : List Int} {color : Int} (h : sizesOk m k xs color = true) : sizesX m k xs color = sizesL m xs color := if_pos h
theorem sizesX_no {W H : Int} {xs : List Int} {color : Int} (h : sizesOk W H xs color = false) : sizesX W H xs color = [] := if_neg (by rw [h]; decide)
theorem sizesL_len (m : Nat) (xs : List Int) (color : Int) : (sizesL m xs color).length ≤ xs.length := Nat.le_trans (sizesTo_len _ _ _ _) (cnt_le _ _)
theorem sizesX_len (W H : Int) (xs : List Int) (color : Int) : (sizesX W H xs color).length ≤ 1048576 := by
  cases hg : sizesOk W H xs color with
  | false => rw [sizesX_no hg]; simp
  | true =>
    have h1 : goodB W H xs = true := by simp only [sizesOk, Bool.and_eq_true] at hg; exact hg.1
    have := (good_bd h1).1
    rw [show sizesX W H xs color = sizesL W.toNat xs color from if_pos hg]
    have := sizesL_len W.toNat xs color
    omega
theorem sizesL_rng {m : Nat} {xs : List Int} {color : Int} : ∀ y ∈ sizesL m xs color, 0 ≤ y ∧ y ≤ (xs.length : Int) := by
  intro y hy
  obtain ⟨a, _, rfl⟩ := List.mem_map.1 hy
  have := szA_le m a xs
  omega
end Go.Proofs.Ytgahompcejbjoaa
