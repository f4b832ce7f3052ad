/- The widest and the narrowest of looms, as data. No condition. -/
import Derived.Test.YtoeognlfalbfkaaLoomMath
namespace Go.Proofs.Ytoeognlfalbfkaa
open Go.RowKit

/-- Empty and wide enough. -/
def isFree (wide : Int) (a : LoomR) : Bool := decide (a.f4 = 0) && decide (wide ≤ a.f1)
def better (wd : Bool) (a m : LoomR) : Bool := if wd = true then decide (m.f1 < a.f1) else decide (a.f1 < m.f1)
def stepBest (wd : Bool) (o : Option LoomR) (a : LoomR) : Option LoomR := match o with | none => some a | some m => if better wd a m = true then some a else some m
/-- The best of a list: the first one that none is better than. -/
def bestO (wd : Bool) (xs : List LoomR) : Option LoomR := xs.foldl (stepBest wd) none
def freeL (wide : Int) (xs : List LoomR) : List LoomR := xs.filter (isFree wide)
section
variable {wd : Bool} {wide : Int} {xs : List LoomR} {k : Nat} {a m : LoomR}
theorem take_more {xs : List LoomR} {k : Nat} {a : LoomR} (h : xs[k]? = some a) : xs.take (k + 1) = xs.take k ++ [a] := by
  obtain ⟨hk, rfl⟩ := List.getElem?_eq_some_iff.1 h
  exact List.take_succ_eq_append_getElem hk
theorem free_yes (h : xs[k]? = some a) (hp : isFree wide a = true) : freeL wide (xs.take (k + 1)) = freeL wide (xs.take k) ++ [a] := by
  unfold freeL
  rw [take_more h, List.filter_append, List.filter_cons, if_pos hp]
  rfl
theorem free_no (h : xs[k]? = some a) (hp : isFree wide a = false) : freeL wide (xs.take (k + 1)) = freeL wide (xs.take k) := by
  unfold freeL
  rw [take_more h, List.filter_append, List.filter_cons, if_neg (by rw [hp]; decide), List.filter_nil, List.append_nil]
theorem free_len : (freeL wide (xs.take k)).length ≤ k := Nat.le_trans (List.length_filter_le _ _) (by rw [List.length_take]; omega)
theorem best_snoc (wd : Bool) (l : List LoomR) (a : LoomR) : bestO wd (l ++ [a]) = stepBest wd (bestO wd l) a := by unfold bestO; rw [List.foldl_append]; rfl
theorem best_first (h : bestO wd xs = none) : bestO wd (xs ++ [a]) = some a := by rw [best_snoc, h]; rfl
theorem best_turn (h : bestO wd xs = some m) (hb : better wd a m = true) : bestO wd (xs ++ [a]) = some a := by rw [best_snoc, h]; exact if_pos hb
theorem best_stay (h : bestO wd xs = some m) (hb : better wd a m = false) : bestO wd (xs ++ [a]) = some m := by rw [best_snoc, h]; exact if_neg (by rw [hb]; decide)
theorem best_in : ∀ (xs : List LoomR) (o : Option LoomR) (m : LoomR), xs.foldl (stepBest wd) o = some m → m ∈ xs ∨ o = some m := by
  intro xs
  induction xs with
  | nil => intro o m h; exact Or.inr h
  | cons x xs ih =>
    intro o m h
    rcases ih _ _ h with h1 | h1
    · exact Or.inl (List.mem_cons_of_mem _ h1)
    · unfold stepBest at h1
      cases o with
      | none => cases h1; exact Or.inl List.mem_cons_self
      | some p =>
        simp only at h1
        split at h1
        · cases h1; exact Or.inl List.mem_cons_self
        · exact Or.inr h1
theorem best_mem (h : bestO wd (freeL wide xs) = some m) : m ∈ xs := by
  rcases best_in _ _ _ h with h1 | h1
  · exact (List.mem_filter.1 h1).1
  · cases h1
theorem best_some : ∀ (xs : List LoomR) (o : Option LoomR), (xs ≠ [] ∨ o ≠ none) → ∃ m, xs.foldl (stepBest wd) o = some m := by
  intro xs
  induction xs with
  | nil =>
    intro o h
    cases o with
    | none => rcases h with h | h <;> exact absurd rfl h
    | some m => exact ⟨m, rfl⟩
  | cons x xs ih =>
    intro o _
    refine ih _ (Or.inr ?_)
    unfold stepBest
    cases o with
    | none => simp
    | some m => simp only; split <;> simp
end
noncomputable def emptyL (wide : Int) (xs : List LoomR) : List LoomR := if loomsB xs = true then freeL wide xs else []
/-- Its id, and whether there is one. -/
noncomputable def pickI (wd : Bool) (wide : Int) (xs : List LoomR) : Int := match bestO wd (freeL wide xs) with | some m => m.f0 | none => 0
noncomputable def pickB (wd : Bool) (wide : Int) (xs : List LoomR) : Bool := (bestO wd (freeL wide xs)).isSome
theorem pick_some {wd : Bool} {wide : Int} {xs : List LoomR} {m : LoomR} (h : bestO wd (freeL wide xs) = some m) : pickI wd wide xs = m.f0 ∧ pickB wd wide xs = true := by unfold pickI pickB; rw [h]; exact ⟨rfl, rfl⟩
theorem pick_none {wd : Bool} {wide : Int} {xs : List LoomR} (h : bestO wd (freeL wide xs) = none) : pickI wd wide xs = 0 ∧ pickB wd wide xs = false := by unfold pickI pickB; rw [h]; exact ⟨rfl, rfl⟩
noncomputable def choose5 (wd : Bool) (wide : Int) (xs : List LoomR) : Int × Bool := if loomsB xs = true ∧ inB wide 30 600 = true then (pickI wd wide xs, pickB wd wide xs) else (0, false)
theorem pick_pos {wd : Bool} {wide : Int} {xs : List LoomR} (hg : loomsB xs = true) : decide (pickI wd wide xs > 0) = pickB wd wide xs := by
  cases h : bestO wd (freeL wide xs) with
  | none => rw [(pick_none h).1, (pick_none h).2]; rfl
  | some m =>
    rw [(pick_some h).1, (pick_some h).2, decide_eq_true_iff]
    obtain ⟨i, hi, rfl⟩ := List.getElem_of_mem (best_mem h)
    have := (loomB_of ((loomsB_of hg).2.1 i _ hi (List.getElem?_eq_getElem hi))).1.1
    omega
/-- Where the model's search stands. -/
def BestAt (wd : Bool) (wide : Int) (xs : List LoomR) (k : Nat) (b : Int) : Prop :=
  (b = -1 ∧ bestO wd (freeL wide (xs.take k)) = none) ∨ ∃ (j : Nat) (m : LoomR), b = (j : Int) ∧ xs[j]? = some m ∧ bestO wd (freeL wide (xs.take k)) = some m
theorem isFree_st {wide : Int} {a : LoomR} (h : ¬ a.f4 = 0) : isFree wide a = false := by unfold isFree; rw [decide_eq_false h]; rfl
theorem isFree_wd {wide : Int} {a : LoomR} (h : ¬ wide ≤ a.f1) : isFree wide a = false := by unfold isFree; rw [decide_eq_false h, Bool.and_false]
theorem isFree_ok {wide : Int} {a : LoomR} (h : a.f4 = 0) (h' : wide ≤ a.f1) : isFree wide a = true := by unfold isFree; rw [decide_eq_true h, decide_eq_true h']; rfl
end Go.Proofs.Ytoeognlfalbfkaa
