/- Plain mathematics of the yarn by color. -/
import Derived.Test.YtndoianocmekmaaCountMath
import Derived.Test.YtndoianocmekmaaYarnMath
namespace Go.Proofs.Ytndoianocmekmaa
open Go.RowKit

def byB (W H : Int) (xs : List Int) (s : YarnR) : Bool := goodB W H xs && goodY s
def lensX (W H : Int) (xs : List Int) (s : YarnR) : List Int := if byB W H xs s = true then (countL xs).map (lenY s) else []
def ballsX (W H : Int) (xs : List Int) (s : YarnR) : List Int := if byB W H xs s = true then (countL xs).map (ballsY s) else []
theorem byB_no0 {W H : Int} {xs : List Int} {s : YarnR} (h : goodB W H xs = false) : byB W H xs s = false := by simp [byB, h]
theorem byB_no1 {W H : Int} {xs : List Int} {s : YarnR} (h : goodY s = false) : byB W H xs s = false := by simp [byB, h]
theorem byB_yes {W H : Int} {xs : List Int} {s : YarnR} (h : goodB W H xs = true) (h' : goodY s = true) : byB W H xs s = true := by simp [byB, h, h']
theorem lensX_no {W H : Int} {xs : List Int} {s : YarnR} (h : byB W H xs s = false) : lensX W H xs s = [] := by simp [lensX, h]
theorem ballsX_no {W H : Int} {xs : List Int} {s : YarnR} (h : byB W H xs s = false) : ballsX W H xs s = [] := by simp [ballsX, h]
theorem countL_bd {xs : List Int} (h : xs.length ≤ 64) {j : Nat} (hj : j < 6) : 0 ≤ (countL xs).getD j 0 ∧ (countL xs).getD j 0 ≤ 64 := by
  rw [countL_get _ _ hj]
  have := howMany_le xs j
  omega
theorem lensX_len (W H : Int) (xs : List Int) (s : YarnR) : (lensX W H xs s).length ≤ 1048576 := by
  unfold lensX
  split
  · rw [List.length_map, countL_len]; omega
  · simp
theorem ballsX_len (W H : Int) (xs : List Int) (s : YarnR) : (ballsX W H xs s).length ≤ 1048576 := by
  unfold ballsX
  split
  · rw [List.length_map, countL_len]; omega
  · simp
theorem map_at {g : Int → Int} {zs : List Int} {k : Nat} {x : Int} (hk : k < zs.length) (hx : zs.getD k 0 = x) : (zs.map g).take (k + 1) = (zs.map g).take k ++ [g x] := by
  rw [List.take_succ_eq_append_getElem (by simpa using hk), List.getElem_map, ← getD_at hk, hx]
theorem set_step {vs ys : List Int} {k : Nat} {y : Int} (hl : vs.length = ys.length) (hk : k < ys.length) (ht : vs.take k = ys.take k) (hy : ys.take (k + 1) = ys.take k ++ [y]) : (vs.set k y).take (k + 1) = ys.take (k + 1) := by
  rw [hy, ← ht, List.take_succ_eq_append_getElem (by simpa using (by omega : k < vs.length)), List.take_set_of_le (Nat.le_refl k), List.getElem_set_self]
theorem map_fits {g : Int → Int} {zs : List Int} (h : ∀ j, j < zs.length → I64 (g (zs.getD j 0))) : ∀ y ∈ zs.map g, I64 y := by
  intro y hy
  obtain ⟨x, hx, rfl⟩ := List.mem_map.1 hy
  obtain ⟨j, hj, rfl⟩ := List.getElem_of_mem hx
  rw [← getD_at hj]
  exact h j hj
end Go.Proofs.Ytndoianocmekmaa
