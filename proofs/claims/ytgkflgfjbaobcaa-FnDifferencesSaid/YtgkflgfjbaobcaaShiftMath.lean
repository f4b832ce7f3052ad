/- Plain mathematics of two charts compared with a shift: partners, differences, overlaps. No condition. -/
import Derived.Test.YtgkflgfjbaobcaaPlaceMath
namespace Go.Proofs.Ytgkflgfjbaobcaa
open Go.RowKit

def upN (L : List Nat) : List Int := L.map fun x : Nat => (x : Int)
theorem upN_len (L : List Nat) : (upN L).length = L.length := by simp [upN]
theorem upN_app (L : List Nat) (x : Nat) : upN (L ++ [x]) = upN L ++ [(x : Int)] := by simp [upN]
theorem upN_get {L : List Nat} {j x : Nat} (h : L[j]? = some x) : (upN L).getD j 0 = (x : Int) := by rw [List.getD_eq_getElem?_getD]; simp [upN, h]
/-- Both numbers of a shift. -/
def shB (d a : Int) : Bool := decide (-2 ≤ d ∧ d ≤ 2) && decide (-2 ≤ a ∧ a ≤ 2)
theorem shB_yes {d a : Int} (h : shB d a = true) : (-2 ≤ d ∧ d ≤ 2) ∧ (-2 ≤ a ∧ a ≤ 2) := by simpa [shB] using h
/-- The place p of a plan of m columns has a partner in a photograph of pm columns and pk rows. -/
def hasP (m pm pk : Nat) (d a : Int) (p : Nat) : Bool := withinB (pm : Int) (pk : Int) (((p / m : Nat) : Int) + d) (((p % m : Nat) : Int) + a) 1 1
def ptn (m pm : Nat) (d a : Int) (p : Nat) : Nat := (((p / m : Nat) : Int) + d).toNat * pm + (((p % m : Nat) : Int) + a).toNat
theorem ptn_eq {m pm pk p : Nat} {d a : Int} (h : hasP m pm pk d a p = true) : (((p / m : Nat) : Int) + d) * (pm : Int) + (((p % m : Nat) : Int) + a) = (ptn m pm d a p : Int) ∧ ptn m pm d a p < pm * pk ∧ 0 ≤ ((p / m : Nat) : Int) + d ∧ 0 ≤ ((p % m : Nat) : Int) + a ∧ ((p / m : Nat) : Int) + d < pk ∧ ((p % m : Nat) : Int) + a < pm := by
  obtain ⟨h1, h2, _, _, h3, h4⟩ := withinB_yes h
  unfold ptn
  clear h
  generalize ((p / m : Nat) : Int) + d = row at *
  generalize ((p % m : Nat) : Int) + a = col at *
  obtain ⟨r, rfl⟩ := Int.eq_ofNat_of_zero_le h1
  obtain ⟨c, rfl⟩ := Int.eq_ofNat_of_zero_le h2
  have e : r * pm + c < pm * pk := by
    have h5 : (r + 1) * pm ≤ pk * pm := Nat.mul_le_mul_right _ (by omega)
    rw [Nat.succ_mul, Nat.mul_comm pk pm] at h5
    omega
  refine ⟨by simp, by simpa using e, h1, h2, by omega, by omega⟩
/-- A difference. -/
def difB (m pm : Nat) (xs ys : List Int) (d a : Int) (p : Nat) : Bool := xs.getD p 0 != ys.getD (ptn m pm d a p) 0
def parTo (m pm pk : Nat) (d a : Int) (i : Nat) : List Nat := (List.range i).filter (hasP m pm pk d a)
def pairOf (m pm : Nat) (d a : Int) (p : Nat) : PairR := ⟨(p : Int), (ptn m pm d a p : Int)⟩
def pairsTo (m pm pk : Nat) (d a : Int) (i : Nat) : List PairR := (parTo m pm pk d a i).map (pairOf m pm d a)
def wrTo (m pm pk : Nat) (xs ys : List Int) (d a : Int) (i : Nat) : List Nat := (List.range i).filter fun p => hasP m pm pk d a p && difB m pm xs ys d a p
section
variable {m pm pk i : Nat} {xs ys : List Int} {d a : Int}
theorem parTo_zero : parTo m pm pk d a 0 = [] := rfl
theorem parTo_yes (h : hasP m pm pk d a i = true) : parTo m pm pk d a (i + 1) = parTo m pm pk d a i ++ [i] := by
  unfold parTo
  rw [List.range_succ, List.filter_append, List.filter_cons, if_pos h]; rfl
theorem parTo_no (h : hasP m pm pk d a i = false) : parTo m pm pk d a (i + 1) = parTo m pm pk d a i := by
  unfold parTo
  rw [List.range_succ, List.filter_append, List.filter_cons, if_neg (by rw [h]; decide)]; simp
theorem parTo_len : (parTo m pm pk d a i).length ≤ i := by
  unfold parTo
  exact Nat.le_trans (List.length_filter_le _ _) (by simp)
theorem pairsTo_len : (pairsTo m pm pk d a i).length = (parTo m pm pk d a i).length := by simp [pairsTo]
theorem pairsTo_yes (h : hasP m pm pk d a i = true) : pairsTo m pm pk d a (i + 1) = pairsTo m pm pk d a i ++ [pairOf m pm d a i] := by
  unfold pairsTo
  rw [parTo_yes h, List.map_append]; rfl
theorem pairsTo_no (h : hasP m pm pk d a i = false) : pairsTo m pm pk d a (i + 1) = pairsTo m pm pk d a i := by
  unfold pairsTo
  rw [parTo_no h]
theorem pairsTo_at {j : Nat} {s : PairR} (h : (pairsTo m pm pk d a i)[j]? = some s) : ∃ p, (parTo m pm pk d a i)[j]? = some p ∧ s = ⟨(p : Int), (ptn m pm d a p : Int)⟩ ∧ p < i ∧ hasP m pm pk d a p = true := by
  unfold pairsTo at h
  rw [List.getElem?_map] at h
  obtain ⟨p, hp, rfl⟩ := Option.map_eq_some_iff.1 h
  have hm := List.mem_of_getElem? hp
  unfold parTo at hm
  obtain ⟨h1, h2⟩ := List.mem_filter.1 hm
  exact ⟨p, hp, rfl, List.mem_range.1 h1, h2⟩
theorem parTo_mem {p : Nat} : p ∈ parTo m pm pk d a i ↔ p < i ∧ hasP m pm pk d a p = true := by unfold parTo; rw [List.mem_filter, List.mem_range]
/-- The differences among the first j pairs. -/
def wrIn (m pm pk : Nat) (xs ys : List Int) (d a : Int) (i j : Nat) : List Nat := ((parTo m pm pk d a i).take j).filter (difB m pm xs ys d a)
theorem wrIn_zero : wrIn m pm pk xs ys d a i 0 = [] := by simp [wrIn]
theorem wrIn_yes {j p : Nat} (hp : (parTo m pm pk d a i)[j]? = some p) (h : difB m pm xs ys d a p = true) : wrIn m pm pk xs ys d a i (j + 1) = wrIn m pm pk xs ys d a i j ++ [p] := by
  obtain ⟨hj, rfl⟩ := List.getElem?_eq_some_iff.1 hp
  unfold wrIn
  rw [List.take_succ_eq_append_getElem hj, List.filter_append, List.filter_cons, if_pos h]; rfl
theorem wrIn_no {j p : Nat} (hp : (parTo m pm pk d a i)[j]? = some p) (h : difB m pm xs ys d a p = false) : wrIn m pm pk xs ys d a i (j + 1) = wrIn m pm pk xs ys d a i j := by
  obtain ⟨hj, rfl⟩ := List.getElem?_eq_some_iff.1 hp
  unfold wrIn
  rw [List.take_succ_eq_append_getElem hj, List.filter_append, List.filter_cons, if_neg (by rw [h]; decide)]; simp
theorem wrIn_len {j : Nat} : (wrIn m pm pk xs ys d a i j).length ≤ j := by
  unfold wrIn
  exact Nat.le_trans (List.length_filter_le _ _) (List.length_take_le _ _)
theorem wrIn_all {j : Nat} (h : (parTo m pm pk d a i).length ≤ j) : wrIn m pm pk xs ys d a i j = wrTo m pm pk xs ys d a i := by
  unfold wrIn wrTo parTo
  rw [List.take_of_length_le (by unfold parTo at h; exact h), List.filter_filter]
  congr 1; funext p; rw [Bool.and_comm]
theorem wrTo_zero : wrTo m pm pk xs ys d a 0 = [] := rfl
theorem wrTo_yes (h : hasP m pm pk d a i = true) (h2 : difB m pm xs ys d a i = true) : wrTo m pm pk xs ys d a (i + 1) = wrTo m pm pk xs ys d a i ++ [i] := by
  unfold wrTo
  rw [List.range_succ, List.filter_append, List.filter_cons, if_pos (by rw [h, h2]; rfl)]; rfl
theorem wrTo_no (h : (hasP m pm pk d a i && difB m pm xs ys d a i) = false) : wrTo m pm pk xs ys d a (i + 1) = wrTo m pm pk xs ys d a i := by
  unfold wrTo
  rw [List.range_succ, List.filter_append, List.filter_cons, if_neg (by rw [h]; decide)]; simp
theorem wrTo_le : (wrTo m pm pk xs ys d a i).length ≤ (parTo m pm pk d a i).length := by
  unfold wrTo parTo
  rw [← List.countP_eq_length_filter, ← List.countP_eq_length_filter]
  exact List.countP_mono_left fun p _ h => by rw [Bool.and_eq_true] at h; exact h.1
theorem wrTo_mem {p : Nat} : p ∈ wrTo m pm pk xs ys d a i ↔ p < i ∧ hasP m pm pk d a p = true ∧ difB m pm xs ys d a p = true := by
  unfold wrTo; rw [List.mem_filter, List.mem_range, Bool.and_eq_true]
end
/-- What is answered for all charts and numbers. -/
def okX (W H : Int) (xs : List Int) (W' H' : Int) (ys : List Int) (d a : Int) : Bool := goodB W H xs && goodB W' H' ys && shB d a
def wrX (W H : Int) (xs : List Int) (W' H' : Int) (ys : List Int) (d a : Int) : List Nat := if okX W H xs W' H' ys d a = true then wrTo W.toNat W'.toNat H'.toNat xs ys d a xs.length else []
def ovX (W H : Int) (xs : List Int) (W' H' : Int) (ys : List Int) (d a : Int) : Nat := if okX W H xs W' H' ys d a = true then (parTo W.toNat W'.toNat H'.toNat d a xs.length).length else 0
section
variable {W H W' H' d a : Int} {xs ys : List Int}
theorem okX_yes (h1 : goodB W H xs = true) (h2 : goodB W' H' ys = true) (h3 : shB d a = true) : okX W H xs W' H' ys d a = true := by simp [okX, h1, h2, h3]
theorem okX_no1 (h : goodB W H xs = false) : okX W H xs W' H' ys d a = false := by simp [okX, h]
theorem okX_no2 (h : goodB W' H' ys = false) : okX W H xs W' H' ys d a = false := by simp [okX, h]
theorem okX_no3 (h : shB d a = false) : okX W H xs W' H' ys d a = false := by simp [okX, h]
theorem wrX_no (h : okX W H xs W' H' ys d a = false) : wrX W H xs W' H' ys d a = [] ∧ ovX W H xs W' H' ys d a = 0 := by simp [wrX, ovX, h]
theorem wrX_yes {m k pm pk : Nat} (h : okX m k xs pm pk ys d a = true) : wrX m k xs pm pk ys d a = wrTo m pm pk xs ys d a xs.length ∧ ovX m k xs pm pk ys d a = (parTo m pm pk d a xs.length).length := by simp [wrX, ovX, h]
theorem wrX_len : (wrX W H xs W' H' ys d a).length ≤ 64 := by
  unfold wrX
  split
  · rename_i h
    have hg : goodB W H xs = true := by unfold okX at h; simp at h; exact h.1.1
    have := (good_bd hg).1
    have h2 := wrTo_le (m := W.toNat) (pm := W'.toNat) (pk := H'.toNat) (xs := xs) (ys := ys) (d := d) (a := a) (i := xs.length)
    have h3 := parTo_len (m := W.toNat) (pm := W'.toNat) (pk := H'.toNat) (d := d) (a := a) (i := xs.length)
    omega
  · simp
end
end Go.Proofs.Ytgkflgfjbaobcaa
