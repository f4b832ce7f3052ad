/- Plain mathematics of charts. -/
import Derived.Test.YtpnmnkdnlajfiaaMem
namespace Go.Proofs.Ytpnmnkdnlajfiaa
open Go.RowKit

def orZero (b : Bool) (x : Int) : Int := if b = true then x else 0
def isSideB (n : Int) : Bool := decide (1 ≤ n ∧ n ≤ 8)
def isColorB (n : Int) : Bool := decide (0 ≤ n ∧ n < 6)
theorem isSideB_yes {n : Int} (h : isSideB n = true) : 1 ≤ n ∧ n ≤ 8 := by simpa [isSideB] using h
theorem isSideB_no {n : Int} (h : ¬ isSideB n = true) : n < 1 ∨ 8 < n := by simp [isSideB] at h; omega
theorem isColorB_yes {n : Int} (h : isColorB n = true) : 0 ≤ n ∧ n < 6 := by simpa [isColorB] using h
theorem isColorB_no {n : Int} (h : isColorB n = false) : n < 0 ∨ 6 ≤ n := by simp [isColorB] at h; omega
/-- A chart is valid. -/
def goodB (W H : Int) (xs : List Int) : Bool := isSideB W && isSideB H && decide ((xs.length : Int) = W * H) && xs.all isColorB
theorem goodB_yes {W H : Int} {xs : List Int} (h : goodB W H xs = true) : (1 ≤ W ∧ W ≤ 8) ∧ (1 ≤ H ∧ H ≤ 8) ∧ (xs.length : Int) = W * H ∧ ∀ x ∈ xs, 0 ≤ x ∧ x < 6 := by
  simp only [goodB, Bool.and_eq_true, decide_eq_true_eq, List.all_eq_true] at h
  exact ⟨isSideB_yes h.1.1.1, isSideB_yes h.1.1.2, h.1.2, fun x hx => isColorB_yes (h.2 x hx)⟩
theorem all_step {p : Int → Bool} {xs : List Int} {k : Nat} {x : Int} (h : (xs.take k).all p = true) (hk : k < xs.length) (hx : xs.getD k 0 = x) (hp : p x = true) : (xs.take (k + 1)).all p = true := by
  rw [List.take_succ_eq_append_getElem hk, List.all_append, h, ← getD_at hk, hx]; simp [hp]
theorem all_bad {p : Int → Bool} {xs : List Int} {k : Nat} {x : Int} (hk : k < xs.length) (hx : xs.getD k 0 = x) (hp : p x = false) : xs.all p = false := by
  rw [List.all_eq_false]
  exact ⟨x, by rw [← hx, getD_at hk]; exact List.getElem_mem hk, by simp [hp]⟩
theorem all_end {p : Int → Bool} {xs : List Int} {k : Nat} (h : (xs.take k).all p = true) (hk : xs.length ≤ k) : xs.all p = true := by
  rwa [List.take_of_length_le hk] at h
theorem len_le {W H : Int} {n : Nat} (h : (n : Int) = W * H) (hW : 1 ≤ W ∧ W ≤ 8) (hH : 1 ≤ H ∧ H ≤ 8) : n ≤ 64 := by
  have : W * H ≤ 8 * 8 := Int.mul_le_mul hW.2 hH.2 (by omega) (by omega)
  omega
theorem good_nat {W H : Int} {xs : List Int} (h : goodB W H xs = true) : ∃ m k : Nat, W = m ∧ H = k ∧ 1 ≤ m ∧ m ≤ 8 ∧ 1 ≤ k ∧ k ≤ 8 ∧ Hid (xs.length = m * k) ∧ xs.length ≤ 64 ∧ 1 ≤ xs.length ∧ ∀ x ∈ xs, 0 ≤ x ∧ x < 6 := by
  obtain ⟨hW, hH, hl, hx⟩ := goodB_yes h
  obtain ⟨m, rfl⟩ := Int.eq_ofNat_of_zero_le (show 0 ≤ W by omega)
  obtain ⟨k, rfl⟩ := Int.eq_ofNat_of_zero_le (show 0 ≤ H by omega)
  have e : xs.length = m * k := by rw [← Int.natCast_mul] at hl; exact Int.ofNat_inj.1 hl
  have : m * k ≤ 8 * 8 := Nat.mul_le_mul (by omega) (by omega)
  have : 1 * 1 ≤ m * k := Nat.mul_le_mul (by omega) (by omega)
  exact ⟨m, k, rfl, rfl, by omega, by omega, by omega, by omega, e, by omega, by omega, hx⟩
theorem good_bd {W H : Int} {xs : List Int} (h : goodB W H xs = true) : xs.length ≤ 64 ∧ 1 ≤ xs.length ∧ ∀ x ∈ xs, 0 ≤ x ∧ x < 6 := by
  obtain ⟨_, _, _, _, _, _, _, _, _, a, b, c⟩ := good_nat h
  exact ⟨a, b, c⟩
/-- A row of a chart. -/
def rowL (m r : Nat) (xs : List Int) : List Int := (xs.drop (r * m)).take m
theorem row_le {m k r : Nat} {n : Nat} (hl : n = m * k) (hr : r < k) : r * m + m ≤ n := by
  rw [hl, ← Nat.succ_mul, Nat.mul_comm]; exact Nat.mul_le_mul_left _ hr
theorem at_lt {m k r j : Nat} {n : Nat} (hl : n = m * k) (hr : r < k) (hj : j < m) : r * m + j < n := by have := row_le hl hr; omega
theorem rowL_len {m k r : Nat} {xs : List Int} (hl : xs.length = m * k) (hr : r < k) : (rowL m r xs).length = m := by
  have := row_le hl hr
  simp only [rowL, List.length_take, List.length_drop]; omega
theorem rowL_get {m r j : Nat} {xs : List Int} (hj : j < m) : (rowL m r xs).getD j 0 = xs.getD (r * m + j) 0 := by
  rw [List.getD_eq_getElem?_getD, List.getD_eq_getElem?_getD, rowL, List.getElem?_take, if_pos hj, List.getElem?_drop]
/-- A part lies within a chart with the sides W and H. -/
def withinB (W H row col h k : Int) : Bool := decide (0 ≤ row ∧ 0 ≤ col ∧ 1 ≤ h ∧ 1 ≤ k ∧ h ≤ H - row ∧ k ≤ W - col)
theorem withinB_yes {W H row col h k : Int} (q : withinB W H row col h k = true) : 0 ≤ row ∧ 0 ≤ col ∧ 1 ≤ h ∧ 1 ≤ k ∧ h ≤ H - row ∧ k ≤ W - col := by simpa [withinB] using q
def knotOk (W H : Int) (xs : List Int) (row col : Int) : Bool := goodB W H xs && withinB W H row col 1 1
def knotV (W H : Int) (xs : List Int) (row col : Int) : Int := if knotOk W H xs row col = true then xs.getD (row.toNat * W.toNat + col.toNat) 0 else 0
theorem knotV_no {W H : Int} {xs : List Int} {row col : Int} (h : ¬ knotOk W H xs row col = true) : knotV W H xs row col = 0 := if_neg h
end Go.Proofs.Ytpnmnkdnlajfiaa
