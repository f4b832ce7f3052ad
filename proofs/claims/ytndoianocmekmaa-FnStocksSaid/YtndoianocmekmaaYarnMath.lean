/- Plain mathematics of a yarn. -/
import Derived.Test.YtndoianocmekmaaYarnData
import Derived.Test.YtndoianocmekmaaBase
namespace Go.Proofs.Ytndoianocmekmaa
open Go.RowKit

def goodY (y : YarnR) : Bool := decide ((1 ≤ y.f0 ∧ y.f0 ≤ 30) ∧ (1 ≤ y.f1 ∧ y.f1 ≤ 40) ∧ (0 ≤ y.f2 ∧ y.f2 ≤ 100) ∧ (1 ≤ y.f3 ∧ y.f3 ≤ 1000))
theorem goodY_bd {y : YarnR} (h : goodY y = true) : (1 ≤ y.f0 ∧ y.f0 ≤ 30) ∧ (1 ≤ y.f1 ∧ y.f1 ≤ 40) ∧ (0 ≤ y.f2 ∧ y.f2 ≤ 100) ∧ (1 ≤ y.f3 ∧ y.f3 ≤ 1000) := of_decide_eq_true h
theorem goodY_no {y : YarnR} (h : ¬ ((1 ≤ y.f0 ∧ y.f0 ≤ 30) ∧ (1 ≤ y.f1 ∧ y.f1 ≤ 40) ∧ (0 ≤ y.f2 ∧ y.f2 ≤ 100) ∧ (1 ≤ y.f3 ∧ y.f3 ≤ 1000))) : goodY y = false := decide_eq_false h
def sharesY (y : YarnR) : Int := (2 * y.f0 + y.f1) * (100 + y.f2)
def lenY (y : YarnR) (k : Int) : Int := (k * sharesY y + 99) / 100
def ballsY (y : YarnR) (k : Int) : Int := (lenY y k + (y.f3 * 1000 - 1)) / (y.f3 * 1000)
theorem mul_bd {a b A B : Int} (h0 : 0 ≤ a) (h1 : a ≤ A) (h2 : 0 ≤ b) (h3 : b ≤ B) : 0 ≤ a * b ∧ a * b ≤ A * B :=
  ⟨Int.mul_nonneg h0 h2, Int.mul_le_mul h1 h3 h2 (Int.le_trans h0 h1)⟩
theorem sharesY_bd {y : YarnR} (h : goodY y = true) : 300 ≤ sharesY y ∧ sharesY y ≤ 20000 := by
  obtain ⟨h0, h1, h2, h3⟩ := goodY_bd h
  refine ⟨?_, (mul_bd (a := 2 * y.f0 + y.f1) (b := 100 + y.f2) (A := 100) (B := 200) (by omega) (by omega) (by omega) (by omega)).2⟩
  have := Int.mul_le_mul (show (3 : Int) ≤ 2 * y.f0 + y.f1 by omega) (show (100 : Int) ≤ 100 + y.f2 by omega) (by omega) (by omega)
  simpa [sharesY] using this
theorem lenY_mul {y : YarnR} (h : goodY y = true) {k : Int} (h0 : 0 ≤ k) (h1 : k ≤ 100000) : 0 ≤ k * sharesY y ∧ k * sharesY y ≤ 2000000000 := by
  have hs := sharesY_bd h
  exact mul_bd h0 h1 (by omega) hs.2
theorem lenY_bd {y : YarnR} (h : goodY y = true) {k : Int} (h0 : 0 ≤ k) (h1 : k ≤ 100000) : 0 ≤ lenY y k ∧ lenY y k ≤ 20000000 := by
  have hs := lenY_mul h h0 h1
  unfold lenY
  omega
theorem ballsY_bd {y : YarnR} (h : goodY y = true) {k : Int} (h0 : 0 ≤ k) (h1 : k ≤ 100000) : 0 ≤ ballsY y k ∧ ballsY y k ≤ 30000000 := by
  have hs := lenY_bd h h0 h1
  have hg := goodY_bd h
  unfold ballsY
  refine ⟨Int.ediv_nonneg (by omega) (by omega), ?_⟩
  have := Int.ediv_le_self (a := lenY y k + (y.f3 * 1000 - 1)) (y.f3 * 1000) (by omega)
  omega
def forX (y : YarnR) (k : Int) : Bool := goodY y && inB k 0 100000
def yarnForX (y : YarnR) (k : Int) : Int := if forX y k = true then lenY y k else 0
def knotsFromX (y : YarnR) (m : Int) : Int := if forX y m = true then m * 100 / sharesY y else 0
theorem forX_no0 {y : YarnR} {k : Int} (h : goodY y = false) : forX y k = false := by simp [forX, h]
theorem forX_no1 {y : YarnR} {k : Int} (h : inB k 0 100000 = false) : forX y k = false := by simp [forX, h]
theorem forX_yes {y : YarnR} {k : Int} (h : goodY y = true) (h' : inB k 0 100000 = true) : forX y k = true := by simp [forX, h, h']
end Go.Proofs.Ytndoianocmekmaa
