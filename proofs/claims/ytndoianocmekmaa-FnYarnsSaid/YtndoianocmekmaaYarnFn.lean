/- Plain mathematics: yarn and knots, back and forth. -/
import Derived.Test.YtndoianocmekmaaByMath
namespace Go.Proofs.Ytndoianocmekmaa
open Go.RowKit

theorem knots_back {y : YarnR} (h : goodY y = true) {k : Int} (h0 : 0 ≤ k) (h1 : k ≤ 100000) : k ≤ lenY y k * 100 / sharesY y ∧ (0 < lenY y k → (lenY y k - 1) * 100 / sharesY y < k) := by
  have hs := sharesY_bd h
  have hm := lenY_mul h h0 h1
  have e1 : k * sharesY y ≤ lenY y k * 100 := by unfold lenY; omega
  have e2 : (lenY y k - 1) * 100 < k * sharesY y := by unfold lenY; omega
  exact ⟨Int.le_ediv_of_mul_le (by omega) e1, fun _ => Int.ediv_lt_of_lt_mul (by omega) e2⟩
theorem balls_back {y : YarnR} (h : goodY y = true) {k : Int} : ¬ 1000 * y.f3 * ballsY y k < lenY y k ∧ 1000 * y.f3 * (ballsY y k - 1) < lenY y k := by
  have hg := goodY_bd h
  have hM : 0 < y.f3 * 1000 := by omega
  have e : ballsY y k = (lenY y k + (y.f3 * 1000 - 1)) / (y.f3 * 1000) := rfl
  have a1 := Int.mul_ediv_self_le (x := lenY y k + (y.f3 * 1000 - 1)) (k := y.f3 * 1000) (by omega)
  have a2 := Int.lt_mul_ediv_self_add (x := lenY y k + (y.f3 * 1000 - 1)) (k := y.f3 * 1000) hM
  rw [← e] at a1 a2
  rw [Int.mul_comm 1000 y.f3, Int.mul_sub, Int.mul_one]
  generalize y.f3 * 1000 * ballsY y k = q at *
  omega
end Go.Proofs.Ytndoianocmekmaa
