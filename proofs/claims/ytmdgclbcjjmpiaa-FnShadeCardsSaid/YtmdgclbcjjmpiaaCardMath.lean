/- Shade cards as lists. No condition. -/
import Derived.Test.YtmdgclbcjjmpiaaShade
import Derived.Test.YtmdgclbcjjmpiaaShadeDist
namespace Go.Proofs.Ytmdgclbcjjmpiaa
open Go.RowKit

def CardTo (xs : List ShadeR) (k : Nat) : Prop := ∀ i a, i < k → xs[i]? = some a → shadeB a = true ∧ ∀ j b, j < i → xs[j]? = some b → b.f0 < a.f0 ∧ (b.f1.toList == a.f1.toList) = false
/-- What is asked of an element in front of another one, up to a place. -/
def Ahead (xs : List ShadeR) (j : Nat) (a : ShadeR) : Prop := ∀ i b, i < j → xs[i]? = some b → b.f0 < a.f0 ∧ (b.f1.toList == a.f1.toList) = false
def Card (xs : List ShadeR) : Prop := xs.length ≤ 10 ∧ CardTo xs xs.length
noncomputable def cardB (xs : List ShadeR) : Bool := @decide (Card xs) (Classical.propDecidable _)
theorem cardB_yes {xs : List ShadeR} (h : Card xs) : cardB xs = true := @decide_eq_true _ (Classical.propDecidable _) h
theorem cardB_no {xs : List ShadeR} (h : ¬ Card xs) : cardB xs = false := @decide_eq_false _ (Classical.propDecidable _) h
theorem cardB_of {xs : List ShadeR} (h : cardB xs = true) : Card xs := @of_decide_eq_true _ (Classical.propDecidable _) h
theorem cardTo_zero (xs : List ShadeR) : CardTo xs 0 := fun i a h => by omega
theorem ahead_zero (xs : List ShadeR) (a : ShadeR) : Ahead xs 0 a := fun i b h => by omega
theorem ahead_step {xs : List ShadeR} {j : Nat} {a b : ShadeR} (h : Ahead xs j a) (hb : xs[j]? = some b) (h1 : b.f0 < a.f0) (h2 : (b.f1.toList == a.f1.toList) = false) : Ahead xs (j + 1) a := by
  intro i c hi hc
  rcases Nat.lt_or_ge i j with hlt | hge
  · exact h i c hlt hc
  · obtain rfl : i = j := by omega
    rw [hb] at hc
    obtain rfl : b = c := Option.some.inj hc
    exact ⟨h1, h2⟩
theorem cardTo_step {xs : List ShadeR} {k : Nat} {a : ShadeR} (h : CardTo xs k) (ha : xs[k]? = some a) (hs : shadeB a = true) (hA : Ahead xs k a) : CardTo xs (k + 1) := by
  intro i c hi hc
  rcases Nat.lt_or_ge i k with hlt | hge
  · exact h i c hlt hc
  · obtain rfl : i = k := by omega
    rw [ha] at hc
    obtain rfl : a = c := Option.some.inj hc
    exact ⟨hs, hA⟩
theorem card_bad1 {xs : List ShadeR} {k : Nat} {a : ShadeR} (ha : xs[k]? = some a) (hs : ¬ shadeB a = true) : cardB xs = false :=
  cardB_no fun h => hs ((h.2 k a (List.getElem?_eq_some_iff.1 ha).1 ha).1)
theorem card_bad2 {xs : List ShadeR} {j k : Nat} {a b : ShadeR} (ha : xs[k]? = some a) (hb : xs[j]? = some b) (hj : j < k) (h : ¬ (b.f0 < a.f0 ∧ (b.f1.toList == a.f1.toList) = false)) : cardB xs = false :=
  cardB_no fun hc => h ((hc.2 k a (List.getElem?_eq_some_iff.1 ha).1 ha).2 j b hj hb)
theorem card_long {xs : List ShadeR} (h : 10 < xs.length) : cardB xs = false := cardB_no fun hc => by have := hc.1; omega
/-- The ids ascend as soon as neighbors do. -/
theorem ids_near {xs : List ShadeR} {k : Nat} {a p : ShadeR} (h : CardTo xs k) (hp : xs[k - 1]? = some p) (hk : 0 < k) (hlt : p.f0 < a.f0) : ∀ i b, i < k → xs[i]? = some b → b.f0 < a.f0 := by
  intro i b hi hb
  rcases Nat.lt_or_ge i (k - 1) with h1 | h1
  · have := ((h (k - 1) p (by omega) hp).2 i b h1 hb).1
    omega
  · obtain rfl : i = k - 1 := by omega
    rw [hp] at hb
    obtain rfl : p = b := Option.some.inj hb
    exact hlt
end Go.Proofs.Ytmdgclbcjjmpiaa
