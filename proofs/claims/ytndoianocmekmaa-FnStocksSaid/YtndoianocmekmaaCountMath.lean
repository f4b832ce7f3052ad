/- Plain mathematics of counting colors. -/
import Derived.Test.YtndoianocmekmaaChartMath
namespace Go.Proofs.Ytndoianocmekmaa
open Go.RowKit

def howMany (l : List Int) (q : Nat) : Int := ((l.filter fun y => decide (y = (q : Int))).length : Nat)
def countL (l : List Int) : List Int := (List.range 6).map fun q => howMany l q
theorem howMany_le (l : List Int) (q : Nat) : 0 ≤ howMany l q ∧ howMany l q ≤ l.length := by
  unfold howMany
  have := List.length_filter_le (fun y => decide (y = (q : Int))) l
  omega
theorem countL_len (l : List Int) : (countL l).length = 6 := by simp [countL]
theorem countL_get (l : List Int) (q : Nat) (h : q < 6) : (countL l).getD q 0 = howMany l q := by rw [getD_at (by rw [countL_len]; exact h)]; simp [countL]
theorem howMany_snoc (l : List Int) (x : Int) (q : Nat) : howMany (l ++ [x]) q = howMany l q + if x = (q : Int) then 1 else 0 := by
  unfold howMany
  rw [List.filter_append]
  by_cases h : x = (q : Int) <;> simp [h]
theorem count_step {xs : List Int} {k q : Nat} (hk : k < xs.length) (hx : xs.getD k 0 = (q : Int)) :
    (countL (xs.take k)).set q (howMany (xs.take k) q + 1) = countL (xs.take (k + 1)) := by
  have e : xs.take (k + 1) = xs.take k ++ [(q : Int)] := by rw [List.take_succ_eq_append_getElem hk, ← getD_at hk, hx]
  rw [e]
  apply List.ext_getElem
  · simp [countL_len]
  · intro i h1 h2
    rw [countL_len] at h2
    rw [List.getElem_set]
    simp only [countL, List.getElem_map, List.getElem_range, howMany_snoc]
    by_cases h : q = i
    · subst h; simp
    · rw [if_neg h, if_neg (by omega)]; simp
theorem countL_fits {l : List Int} (h : l.length ≤ 64) : ∀ x ∈ countL l, I64 x := by
  intro x hx
  simp only [countL, List.mem_map] at hx
  obtain ⟨q, _, rfl⟩ := hx
  have := howMany_le l q
  exact ⟨by omega, by omega⟩
def countC (W H : Int) (xs : List Int) : List Int := if goodB W H xs = true then countL xs else []
theorem countC_len (W H : Int) (xs : List Int) : (countC W H xs).length ≤ 1048576 := by
  unfold countC
  split
  · rw [countL_len]; omega
  · simp
end Go.Proofs.Ytndoianocmekmaa
