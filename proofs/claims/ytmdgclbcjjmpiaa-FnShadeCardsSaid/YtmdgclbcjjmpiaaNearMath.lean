/- The nearest shade of a card as a list's fold. No condition. -/
import Derived.Test.YtmdgclbcjjmpiaaCardMath
namespace Go.Proofs.Ytmdgclbcjjmpiaa
open Go.RowKit

def nearStep (wh d : Int) (best a : ShadeR) : ShadeR := if distI a.f2 a.f3 wh d < distI best.f2 best.f3 wh d then a else best
def nearTo (xs : List ShadeR) (wh d : Int) (k : Nat) : ShadeR := (xs.take k).foldl (nearStep wh d) (xs.headD ShadeR.zero)
theorem nearTo_one {xs : List ShadeR} {a : ShadeR} (wh d : Int) (h : xs[0]? = some a) : nearTo xs wh d 1 = a := by
  cases xs with
  | nil => simp at h
  | cons x xs => simp at h; subst h; simp [nearTo, nearStep]
theorem nearTo_step {xs : List ShadeR} {a : ShadeR} {k : Nat} (wh d : Int) (h : xs[k]? = some a) : nearTo xs wh d (k + 1) = nearStep wh d (nearTo xs wh d k) a := by
  obtain ⟨hk, rfl⟩ := List.getElem?_eq_some_iff.1 h
  unfold nearTo
  rw [List.take_succ_eq_append_getElem hk, List.foldl_append]
  rfl
theorem nearTo_yes {xs : List ShadeR} {a b : ShadeR} {k : Nat} {wh d : Int} (h : xs[k]? = some a) (hb : nearTo xs wh d k = b) (hlt : distI a.f2 a.f3 wh d < distI b.f2 b.f3 wh d) : nearTo xs wh d (k + 1) = a := by
  rw [nearTo_step wh d h, hb, nearStep, if_pos hlt]
theorem nearTo_no {xs : List ShadeR} {a b : ShadeR} {k : Nat} {wh d : Int} (h : xs[k]? = some a) (hb : nearTo xs wh d k = b) (hlt : ¬ distI a.f2 a.f3 wh d < distI b.f2 b.f3 wh d) : nearTo xs wh d (k + 1) = b := by
  rw [nearTo_step wh d h, hb, nearStep, if_neg hlt]
def Fine (s : ShadeR) : Prop := Step s.f2 ∧ Deep s.f3
theorem card_fine {xs : List ShadeR} (h : cardB xs = true) {k : Nat} {a : ShadeR} (ha : xs[k]? = some a) : Fine a := by
  have := ((cardB_of h).2 k a (List.getElem?_eq_some_iff.1 ha).1 ha).1
  exact ⟨(shadeB_parts this).2.2.1, (shadeB_parts this).2.2.2.1⟩
noncomputable def nearB (xs : List ShadeR) (wh d : Int) : Bool := cardB xs && decide (xs.length ≠ 0) && inB wh 0 23 && inB d 0 9
noncomputable def nearN (xs : List ShadeR) (wh d : Int) : Int := if nearB xs wh d = true then (nearTo xs wh d xs.length).f0 else 0
theorem near_no {xs : List ShadeR} {wh d : Int} (h : nearB xs wh d = false) : nearN xs wh d = 0 ∧ nearB xs wh d = false := ⟨by simp [nearN, h], h⟩
theorem near_no1 {xs : List ShadeR} {wh d : Int} (h : cardB xs = false) : nearN xs wh d = 0 ∧ nearB xs wh d = false := near_no (by simp [nearB, h])
theorem near_no2 {xs : List ShadeR} {wh d : Int} (h : xs.length = 0) : nearN xs wh d = 0 ∧ nearB xs wh d = false := near_no (by simp [nearB, h])
theorem near_no3 {xs : List ShadeR} {wh d : Int} (h : inB wh 0 23 = false) : nearN xs wh d = 0 ∧ nearB xs wh d = false := near_no (by simp [nearB, h])
theorem near_no4 {xs : List ShadeR} {wh d : Int} (h : inB d 0 9 = false) : nearN xs wh d = 0 ∧ nearB xs wh d = false := near_no (by simp [nearB, h])
theorem near_yes {xs : List ShadeR} {wh d : Int} {s : ShadeR} (h1 : cardB xs = true) (h2 : xs.length ≠ 0) (h3 : inB wh 0 23 = true) (h4 : inB d 0 9 = true) (hs : nearTo xs wh d xs.length = s) : nearN xs wh d = s.f0 ∧ nearB xs wh d = true := by
  have : nearB xs wh d = true := by simp [nearB, h1, h2, h3, h4]
  exact ⟨by rw [nearN, if_pos this, hs], this⟩
end Go.Proofs.Ytmdgclbcjjmpiaa
