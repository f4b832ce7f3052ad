/- Plain mathematics of a photograph that is shifted. No condition. -/
import Derived.Test.YtgkflgfjbaobcaaShiftMath
import Derived.Test.YtgkflgfjbaobcaaMakeI
namespace Go.Proofs.Ytgkflgfjbaobcaa
open Go.RowKit

def phV (m k : Nat) (xs : List Int) (d a col : Int) (p : Nat) : Int := if hasP m m k d a p = true then xs.getD (ptn m m d a p) 0 else col
def phL (m k : Nat) (xs : List Int) (d a col : Int) (n : Nat) : List Int := (List.range n).map (phV m k xs d a col)
/-- After the first j pairs. -/
def phIn (m k : Nat) (xs : List Int) (d a col : Int) (N j : Nat) : List Int := (List.range N).map fun p => if p ∈ (parTo m m k d a N).take j then xs.getD (ptn m m d a p) 0 else col
section
variable {m k N j p n : Nat} {xs : List Int} {d a col v : Int}
theorem phL_len : (phL m k xs d a col n).length = n := by simp [phL]
theorem phIn_len : (phIn m k xs d a col N j).length = N := by simp [phIn]
theorem phL_zero : phL m k xs d a col 0 = [] := rfl
theorem phL_succ : phL m k xs d a col (n + 1) = phL m k xs d a col n ++ [phV m k xs d a col n] := by simp [phL, List.range_succ]
theorem phV_yes (h : hasP m m k d a p = true) : phV m k xs d a col p = xs.getD (ptn m m d a p) 0 := if_pos h
theorem phV_no (h : hasP m m k d a p = false) : phV m k xs d a col p = col := if_neg (by rw [h]; decide)
theorem phIn_zero : phIn m k xs d a col N 0 = List.replicate N col := by
  apply List.ext_getElem
  · simp [phIn]
  · intro i h1 h2; simp [phIn]
theorem phIn_step (hp : (parTo m m k d a N)[j]? = some p) (hv : xs.getD (ptn m m d a p) 0 = v) : (phIn m k xs d a col N j).set p v = phIn m k xs d a col N (j + 1) := by
  obtain ⟨hj, hpe⟩ := List.getElem?_eq_some_iff.1 hp
  apply List.ext_getElem
  · simp [phIn]
  · intro i h1 h2
    rw [List.getElem_set]
    simp only [phIn, List.getElem_map, List.getElem_range]
    rw [List.take_succ_eq_append_getElem hj, hpe]
    by_cases e : p = i
    · subst e
      rw [if_pos rfl, if_pos (by simp), hv]
    · rw [if_neg e]
      have e' : ¬ i = p := fun h => e h.symm
      simp only [List.mem_append, List.mem_singleton, e', or_false]
theorem phIn_all (h : (parTo m m k d a N).length ≤ j) : phIn m k xs d a col N j = phL m k xs d a col N := by
  unfold phIn phL
  rw [List.take_of_length_le h]
  apply List.map_congr_left
  intro p hp
  have hN := List.mem_range.1 hp
  unfold phV
  by_cases hh : hasP m m k d a p = true
  · rw [if_pos (parTo_mem.2 ⟨hN, hh⟩), if_pos hh]
  · rw [if_neg (fun h => hh (parTo_mem.1 h).2), if_neg hh]
end
def phOk (W H : Int) (xs : List Int) (d a col : Int) : Bool := goodB W H xs && shB d a && isColorB col
def phX (W H : Int) (xs : List Int) (d a col : Int) : List Int := if phOk W H xs d a col = true then phL W.toNat H.toNat xs d a col xs.length else []
section
variable {W H d a col : Int} {xs : List Int}
theorem phOk_1 (h : goodB W H xs = false) : phOk W H xs d a col = false := by simp [phOk, h]
theorem phOk_2 (h : shB d a = false) : phOk W H xs d a col = false := by simp [phOk, h]
theorem phOk_3 (h : isColorB col = false) : phOk W H xs d a col = false := by simp [phOk, h]
theorem phOk_4 (h : goodB W H xs = true) (h2 : shB d a = true) (h3 : isColorB col = true) : phOk W H xs d a col = true := by simp [phOk, h, h2, h3]
theorem phX_no (h : phOk W H xs d a col = false) : phX W H xs d a col = [] := if_neg (by rw [h]; decide)
theorem phX_yes {m k : Nat} (h : phOk m k xs d a col = true) : phX m k xs d a col = phL m k xs d a col xs.length := if_pos h
theorem phX_len : (phX W H xs d a col).length ≤ 1048576 := by
  unfold phX
  split
  · rename_i h
    unfold phOk at h
    simp only [Bool.and_eq_true] at h
    have := (good_bd h.1.1).1
    rw [phL_len]; omega
  · simp
end
end Go.Proofs.Ytgkflgfjbaobcaa
