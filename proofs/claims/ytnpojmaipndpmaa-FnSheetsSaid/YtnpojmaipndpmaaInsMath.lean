/- Insertion from behind, as data. No condition. -/
import Derived.Test.YtnpojmaipndpmaaMem
namespace Go.Proofs.Ytnpojmaipndpmaa
open Go.RowKit

def insAt (ys : List Int) (x : Int) (k : Nat) : List Int := ys.take k ++ (x :: ys.drop k)
theorem insAt_len (ys : List Int) (x : Int) (k : Nat) : (insAt ys x k).length = ys.length + 1 := by
  simp only [insAt, List.length_append, List.length_take, List.length_cons, List.length_drop]
  omega
theorem insAt_end (ys : List Int) (x : Int) : insAt ys x ys.length = ys ++ [x] := by simp [insAt]
theorem insAt_mem (ys : List Int) (x y : Int) (k : Nat) : y ∈ insAt ys x k ↔ y = x ∨ y ∈ ys := by
  have h := List.take_append_drop k ys
  have h2 : y ∈ ys ↔ y ∈ ys.take k ∨ y ∈ ys.drop k := by rw [← List.mem_append, h]
  rw [h2]
  simp only [insAt, List.mem_append, List.mem_cons]
  constructor
  · rintro (h | h | h) <;> simp [h]
  · rintro (h | h | h) <;> simp [h]
/-- The place behind the last one that is not to stand behind x. -/
def PlaceE (less : Int → Int → Bool) (x : Int) (ys : List Int) (k : Nat) : Prop :=
  k ≤ ys.length ∧ (∀ j y, k ≤ j → ys[j]? = some y → less x y = true) ∧ (∀ y, 0 < k → ys[k - 1]? = some y → less x y = false)
theorem place_one {less : Int → Int → Bool} {x : Int} {ys : List Int} {j k : Nat} (hj : PlaceE less x ys j) (hk : PlaceE less x ys k) : j = k := by
  have main : ∀ a b, PlaceE less x ys a → PlaceE less x ys b → ¬ a < b := by
    intro a b ha hb hab
    have hl : b - 1 < ys.length := by have := hb.1; omega
    have h1 := ha.2.1 (b - 1) _ (by omega) (List.getElem?_eq_getElem hl)
    have h2 := hb.2.2 _ (by omega) (List.getElem?_eq_getElem hl)
    rw [h1] at h2
    cases h2
  rcases Nat.lt_trichotomy j k with h | h | h
  · exact absurd h (main j k hj hk)
  · exact h
  · exact absurd h (main k j hk hj)
noncomputable def insE (less : Int → Int → Bool) (ys : List Int) (x : Int) : List Int := insAt ys x (@Classical.epsilon Nat ⟨0⟩ (PlaceE less x ys))
theorem insE_eq {less : Int → Int → Bool} {x : Int} {ys : List Int} {k : Nat} (h : PlaceE less x ys k) : insE less ys x = insAt ys x k := by
  unfold insE
  rw [place_one (@Classical.epsilon_spec_aux Nat ⟨0⟩ (PlaceE less x ys) ⟨k, h⟩) h]
theorem insE_len (less : Int → Int → Bool) (ys : List Int) (x : Int) : (insE less ys x).length = ys.length + 1 := insAt_len ys x _
theorem insE_mem (less : Int → Int → Bool) (ys : List Int) (x y : Int) : y ∈ insE less ys x ↔ y = x ∨ y ∈ ys := insAt_mem ys x y _
noncomputable def sortE (less : Int → Int → Bool) (ws : List Int) : List Int := ws.foldl (insE less) []
theorem sortE_snoc (less : Int → Int → Bool) (ws : List Int) (x : Int) : sortE less (ws ++ [x]) = insE less (sortE less ws) x := by unfold sortE; rw [List.foldl_append]; rfl
theorem sortE_take {less : Int → Int → Bool} {ws : List Int} {k : Nat} {x : Int} (h : ws[k]? = some x) : sortE less (ws.take (k + 1)) = insE less (sortE less (ws.take k)) x := by
  obtain ⟨hk, rfl⟩ := List.getElem?_eq_some_iff.1 h
  rw [List.take_succ_eq_append_getElem hk, sortE_snoc]
theorem foldl_len (less : Int → Int → Bool) : ∀ (ws ys : List Int), (ws.foldl (insE less) ys).length = ys.length + ws.length := by
  intro ws
  induction ws with
  | nil => intro ys; simp
  | cons x ws ih =>
    intro ys
    rw [List.foldl_cons, ih, insE_len, List.length_cons]
    omega
theorem sortE_len (less : Int → Int → Bool) (ws : List Int) : (sortE less ws).length = ws.length := by
  unfold sortE
  rw [foldl_len]
  simp
theorem foldl_mem (less : Int → Int → Bool) (y : Int) : ∀ (ws ys : List Int), y ∈ ws.foldl (insE less) ys ↔ y ∈ ys ∨ y ∈ ws := by
  intro ws
  induction ws with
  | nil => intro ys; simp
  | cons x ws ih =>
    intro ys
    rw [List.foldl_cons, ih, insE_mem, List.mem_cons]
    constructor
    · rintro ((h | h) | h) <;> simp [h]
    · rintro (h | h | h) <;> simp [h]
theorem sortE_mem (less : Int → Int → Bool) (ws : List Int) (y : Int) : y ∈ sortE less ws ↔ y ∈ ws := by
  unfold sortE
  rw [foldl_mem]
  simp
theorem sortE_one (less : Int → Int → Bool) (ws : List Int) : sortE less (ws.take 1) = ws.take 1 := by
  cases ws with
  | nil => rfl
  | cons x t =>
    show insE less [] x = [x]
    unfold insE insAt
    simp
/-- What stands behind x at a place is to stand behind x. -/
def Behind (less : Int → Int → Bool) (x : Int) (ys : List Int) (k : Nat) : Prop := ∀ j y, k ≤ j → ys[j]? = some y → less x y = true
theorem behind_end (less : Int → Int → Bool) (x : Int) (ys : List Int) : Behind less x ys ys.length := fun j y h e => by have := (List.getElem?_eq_some_iff.1 e).1; omega
theorem behind_step {less : Int → Int → Bool} {x y : Int} {ys : List Int} {m : Nat} (h : Behind less x ys (m + 1)) (hy : ys[m]? = some y) (hl : less x y = true) : Behind less x ys m := fun j z hj e => by
  rcases Nat.lt_or_ge m j with h1 | h1
  · exact h j z (by omega) e
  · obtain rfl : j = m := by omega
    rw [hy] at e
    cases e
    exact hl
theorem place_zero {less : Int → Int → Bool} {x : Int} {ys : List Int} (h : Behind less x ys 0) : PlaceE less x ys 0 := ⟨Nat.zero_le _, h, fun y h0 => by omega⟩
theorem place_at {less : Int → Int → Bool} {x y : Int} {ys : List Int} {m : Nat} (h : Behind less x ys (m + 1)) (hy : ys[m]? = some y) (hl : less x y = false) : PlaceE less x ys (m + 1) :=
  ⟨(List.getElem?_eq_some_iff.1 hy).1, h, fun z _ e => by
    rw [Nat.add_sub_cancel, hy] at e
    cases e
    exact hl⟩
/-- The row while x goes to the front, and one step of it. -/
theorem insAt_at {ys rest : List Int} {x : Int} {k : Nat} (hk : k ≤ ys.length) : (insAt ys x k ++ rest)[k]? = some x := by
  have h1 : (ys.take k).length = k := by rw [List.length_take]; omega
  unfold insAt
  rw [List.append_assoc, List.getElem?_append_right (by omega), h1, Nat.sub_self]
  rfl
theorem insAt_before {ys rest : List Int} {x y : Int} {m : Nat} (hy : ys[m]? = some y) : (insAt ys x (m + 1) ++ rest)[m]? = some y := by
  have hm := (List.getElem?_eq_some_iff.1 hy).1
  have h1 : (ys.take (m + 1)).length = m + 1 := by rw [List.length_take]; omega
  unfold insAt
  rw [List.append_assoc, List.getElem?_append_left (by omega), List.getElem?_take, if_pos (by omega)]
  exact hy
theorem insAt_swap {ys rest : List Int} {x y : Int} {m : Nat} (hy : ys[m]? = some y) : ((insAt ys x (m + 1) ++ rest).set (m + 1) y).set m x = insAt ys x m ++ rest := by
  obtain ⟨hm, rfl⟩ := List.getElem?_eq_some_iff.1 hy
  have h1 : (ys.take m).length = m := by rw [List.length_take]; omega
  have e1 : insAt ys x (m + 1) ++ rest = ys.take m ++ (ys[m] :: x :: (ys.drop (m + 1) ++ rest)) := by
    unfold insAt
    rw [List.take_succ_eq_append_getElem hm]
    simp only [List.append_assoc, List.cons_append, List.nil_append]
  have e2 : insAt ys x m ++ rest = ys.take m ++ (x :: ys[m] :: (ys.drop (m + 1) ++ rest)) := by
    unfold insAt
    rw [List.drop_eq_getElem_cons hm]
    simp only [List.append_assoc, List.cons_append]
  rw [e1, e2, List.set_append_right _ _ (by omega), List.set_append_right _ _ (by omega), h1]
  rw [show m + 1 - m = 1 by omega, Nat.sub_self]
  rfl
end Go.Proofs.Ytnpojmaipndpmaa
