/- Plain mathematics of a part that is put into a chart. -/
import Derived.Test.YtjfdcmdgpeeabaaSymMath
namespace Go.Proofs.Ytjfdcmdgpeeabaa
open Go.RowKit

/-- Which of two knots stands at a place, when the first i0 rows of the part and j0 of the next are put in at row r and column q. -/
def putE (m pm : Nat) (xs ys : List Int) (r q i0 j0 i j : Nat) : Int :=
  if q ≤ j ∧ j < q + pm ∧ r ≤ i ∧ (i < r + i0 ∨ (i = r + i0 ∧ j < q + j0)) then elt pm ys (i - r) (j - q) else elt m xs i j
/-- The chart so far. -/
def PutTo (m kk pm : Nat) (xs ys : List Int) (r q i0 j0 : Nat) (zs : List Int) : Prop :=
  zs.length = m * kk ∧ ∀ i j, i < kk → j < m → zs.getD (i * m + j) 0 = putE m pm xs ys r q i0 j0 i j
/-- The chart with the part. -/
def putL (m kk pm pk : Nat) (xs ys : List Int) (r q : Nat) : List Int := gridL kk m fun i j => putE m pm xs ys r q pk 0 i j
theorem putL_len (m kk pm pk : Nat) (xs ys : List Int) (r q : Nat) : (putL m kk pm pk xs ys r q).length = kk * m := gridL_len _ _ _
theorem put_start {m kk pm r q : Nat} {xs ys : List Int} (h : xs.length = m * kk) : PutTo m kk pm xs ys r q 0 0 xs :=
  ⟨h, fun i j _ _ => by rw [putE, if_neg (by omega)]; rfl⟩
theorem put_end {m kk pm pk r q : Nat} {xs ys zs : List Int} (h : PutTo m kk pm xs ys r q pk 0 zs) : zs = putL m kk pm pk xs ys r q :=
  gridL_ext (by rw [h.1, Nat.mul_comm]) h.2
theorem put_next {m kk pm r q i0 : Nat} {xs ys zs : List Int} (h : PutTo m kk pm xs ys r q i0 pm zs) : PutTo m kk pm xs ys r q (i0 + 1) 0 zs := by
  refine ⟨h.1, fun i j hi hj => ?_⟩
  rw [h.2 i j hi hj]
  unfold putE
  by_cases e : q ≤ j ∧ j < q + pm ∧ r ≤ i ∧ (i < r + i0 ∨ (i = r + i0 ∧ j < q + pm))
  · rw [if_pos e, if_pos (by omega)]
  · rw [if_neg e, if_neg (by omega)]
theorem place_ne {m i i' j j' : Nat} (hj : j < m) (hj' : j' < m) (h : i * m + j = i' * m + j') : i = i' ∧ j = j' := by
  have h1 : (i * m + j) / m = i := by rw [Nat.mul_comm, Nat.mul_add_div (by omega), Nat.div_eq_of_lt hj, Nat.add_zero]
  have h2 : (i' * m + j') / m = i' := by rw [Nat.mul_comm, Nat.mul_add_div (by omega), Nat.div_eq_of_lt hj', Nat.add_zero]
  have : i = i' := by rw [← h1, h, h2]
  subst this
  exact ⟨rfl, by omega⟩
theorem put_one {m kk pm r q i0 j0 : Nat} {xs ys zs : List Int} {x : Int} (h : PutTo m kk pm xs ys r q i0 j0 zs) (hi : r + i0 < kk) (hj : j0 < pm) (hq : q + pm ≤ m) (hx : elt pm ys i0 j0 = x) :
    PutTo m kk pm xs ys r q i0 (j0 + 1) (zs.set ((r + i0) * m + (q + j0)) x) := by
  refine ⟨by rw [List.length_set]; exact h.1, fun i j hi' hj' => ?_⟩
  have hlt := at_lt h.1 hi (show q + j0 < m by omega)
  by_cases e : (r + i0) * m + (q + j0) = i * m + j
  · obtain ⟨e1, e2⟩ := place_ne (show q + j0 < m by omega) hj' e
    rw [← e, List.getD_eq_getElem?_getD, List.getElem?_set_self hlt, putE, if_pos (by omega), ← e1, ← e2, Nat.add_sub_cancel_left, Nat.add_sub_cancel_left, hx]
    rfl
  · rw [List.getD_eq_getElem?_getD, List.getElem?_set_ne e, ← List.getD_eq_getElem?_getD, h.2 i j hi' hj']
    have e' : ¬ (i = r + i0 ∧ j = q + j0) := fun ⟨a, b⟩ => e (by rw [a, b])
    unfold putE
    by_cases e3 : q ≤ j ∧ j < q + pm ∧ r ≤ i ∧ (i < r + i0 ∨ (i = r + i0 ∧ j < q + j0))
    · rw [if_pos e3, if_pos (by omega)]
    · rw [if_neg e3, if_neg (by omega)]
/-- A whole row of the part at once. -/
theorem put_row {m kk pm r q i0 : Nat} {xs ys zs row : List Int} (h : PutTo m kk pm xs ys r q i0 0 zs) (hi : r + i0 < kk) (hq : q + pm ≤ m) (hl : row.length = pm) (hrow : ∀ j, j < pm → row.getD j 0 = elt pm ys i0 j) :
    PutTo m kk pm xs ys r q (i0 + 1) 0 (splice zs ((r + i0) * m + q) row) := by
  have hle := row_le h.1 hi
  refine ⟨by rw [length_splice _ _ _ (by omega)]; exact h.1, fun i j hi' hj' => ?_⟩
  have hg : (splice zs ((r + i0) * m + q) row).getD (i * m + j) 0 = if (r + i0) * m + q ≤ i * m + j ∧ i * m + j < (r + i0) * m + q + pm then row.getD (i * m + j - ((r + i0) * m + q)) 0 else zs.getD (i * m + j) 0 := by
    unfold splice
    simp only [List.getD_eq_getElem?_getD, List.getElem?_append, List.length_take, List.getElem?_take, List.getElem?_drop]
    rw [Nat.min_eq_left (by omega)]
    by_cases c1 : i * m + j < (r + i0) * m + q
    · rw [if_pos c1, if_pos c1, if_neg (by omega)]
    · rw [if_neg c1]
      by_cases c2 : i * m + j - ((r + i0) * m + q) < row.length
      · rw [if_pos c2, if_pos (by omega)]
      · rw [if_neg c2, if_neg (by omega)]
        congr 2
        omega
  rw [hg]
  by_cases e : i = r + i0
  · subst e
    by_cases c : q ≤ j ∧ j < q + pm
    · rw [if_pos (by omega), show (r + i0) * m + j - ((r + i0) * m + q) = j - q by omega, hrow _ (by omega), putE, if_pos (by omega), Nat.add_sub_cancel_left]
    · rw [if_neg (by omega), h.2 _ _ hi' hj', putE, putE, if_neg (by omega), if_neg (by omega)]
  · have hn : ¬ ((r + i0) * m + q ≤ i * m + j ∧ i * m + j < (r + i0) * m + q + pm) := by
      rcases Nat.lt_or_gt_of_ne e with e | e
      · have := Nat.mul_le_mul_right m e
        rw [Nat.succ_mul] at this
        omega
      · have := Nat.mul_le_mul_right m e
        rw [Nat.succ_mul] at this
        omega
    rw [if_neg hn, h.2 _ _ hi' hj']
    unfold putE
    by_cases e3 : q ≤ j ∧ j < q + pm ∧ r ≤ i ∧ (i < r + i0 ∨ (i = r + i0 ∧ j < q + 0))
    · rw [if_pos e3, if_pos (by omega)]
    · rw [if_neg e3, if_neg (by omega)]
end Go.Proofs.Ytjfdcmdgpeeabaa
