/- Plain mathematics of charts. -/
import Derived.Test.YtbbbkeomfohacaaMem
namespace Go.Proofs.Ytbbbkeomfohacaa

def isSideB (n : Int) : Bool := decide (1 ≤ n ∧ n ≤ 8)
def isColorB (n : Int) : Bool := decide (0 ≤ n ∧ n < 6)
theorem isSideB_yes {n : Int} (h : isSideB n = true) : 1 ≤ n ∧ n ≤ 8 := by simpa [isSideB] using h
theorem isSideB_no {n : Int} (h : ¬ isSideB n = true) : n < 1 ∨ 8 < n := by simp [isSideB] at h; omega
theorem isColorB_yes {n : Int} (h : isColorB n = true) : 0 ≤ n ∧ n < 6 := by simpa [isColorB] using h
theorem isColorB_no {n : Int} (h : isColorB n = false) : n < 0 ∨ 6 ≤ n := by simp [isColorB] at h; omega
/-- A chart is valid. -/
def goodB (W H : Int) (xs : List Int) : Bool := isSideB W && isSideB H && decide ((xs.length : Int) = W * H) && xs.all isColorB
theorem goodB_yes {W H : Int} {xs : List Int} (h : goodB W H xs = true) : (1 ≤ W ∧ W ≤ 8) ∧ (1 ≤ H ∧ H ≤ 8) ∧ (xs.length : Int) = W * H ∧ ∀ x ∈ xs, 0 ≤ x ∧ x < 6 := by
  simp only [goodB, Bool.and_eq_true, decide_eq_true_eq, List.all_eq_true] at h
  exact ⟨isSideB_yes h.1.1.1, isSideB_yes h.1.1.2, h.1.2, fun x hx => isColorB_yes (h.2 x hx)⟩
theorem all_step {p : Int → Bool} {xs : List Int} {k : Nat} {x : Int} (h : (xs.take k).all p = true) (hk : k < xs.length) (hx : xs.getD k 0 = x) (hp : p x = true) : (xs.take (k + 1)).all p = true := by
  rw [List.take_succ_eq_append_getElem hk, List.all_append, h, ← getD_at hk, hx]; simp [hp]
theorem all_bad {p : Int → Bool} {xs : List Int} {k : Nat} {x : Int} (hk : k < xs.length) (hx : xs.getD k 0 = x) (hp : p x = false) : xs.all p = false := by
  rw [List.all_eq_false]
  exact ⟨x, by rw [← hx, getD_at hk]; exact List.getElem_mem hk, by simp [hp]⟩
theorem all_end {p : Int → Bool} {xs : List Int} {k : Nat} (h : (xs.take k).all p = true) (hk : xs.length ≤ k) : xs.all p = true := by
  rwa [List.take_of_length_le hk] at h
theorem len_le {W H : Int} {n : Nat} (h : (n : Int) = W * H) (hW : 1 ≤ W ∧ W ≤ 8) (hH : 1 ≤ H ∧ H ≤ 8) : n ≤ 64 := by
  have : W * H ≤ 8 * 8 := Int.mul_le_mul hW.2 hH.2 (by omega) (by omega)
  omega
end Go.Proofs.Ytbbbkeomfohacaa
