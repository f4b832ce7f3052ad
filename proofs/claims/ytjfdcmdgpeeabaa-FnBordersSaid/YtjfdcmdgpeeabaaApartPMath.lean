/- Plain mathematics of ApartPlaces: which places are taken. -/
import Derived.Test.YtjfdcmdgpeeabaaPlaceMath
import Derived.Test.YtjfdcmdgpeeabaaBase
namespace Go.Proofs.Ytjfdcmdgpeeabaa
open Go.RowKit

/-- Two places of a motif have a knot in common. -/
def nearB (pm pk : Nat) (a t : PairR) : Bool := decide (mostI (a.f0 - t.f0) (-(a.f0 - t.f0)) < (pk : Int)) && decide (mostI (a.f1 - t.f1) (-(a.f1 - t.f1)) < (pm : Int))
def freeB (pm pk : Nat) (a : PairR) (l : List PairR) : Bool := l.all fun t => !nearB pm pk a t
/-- The places that are taken, one after the other. -/
def takenL (pm pk : Nat) : List PairR → List PairR → List PairR
  | acc, [] => acc
  | acc, a :: l => takenL pm pk (if freeB pm pk a acc = true then acc ++ [a] else acc) l
section
variable {pm pk : Nat}
theorem takenL_snoc (l : List PairR) : ∀ (acc : List PairR) (a : PairR), takenL pm pk acc (l ++ [a]) = if freeB pm pk a (takenL pm pk acc l) = true then takenL pm pk acc l ++ [a] else takenL pm pk acc l := by
  induction l with
  | nil => intro acc a; rfl
  | cons x l ih => intro acc a; exact ih _ a
theorem takenL_len (l : List PairR) : ∀ acc : List PairR, (takenL pm pk acc l).length ≤ acc.length + l.length := by
  induction l with
  | nil => intro acc; exact Nat.le_refl _
  | cons x l ih =>
    intro acc
    refine Nat.le_trans (ih _) ?_
    split <;> simp <;> omega
theorem takenL_mem (l : List PairR) : ∀ (acc : List PairR) (a : PairR), a ∈ takenL pm pk acc l → a ∈ acc ∨ a ∈ l := by
  induction l with
  | nil => intro acc a h; exact .inl h
  | cons x l ih =>
    intro acc a h
    rcases ih _ _ h with h | h
    · split at h
      · rcases List.mem_append.1 h with h | h
        · exact .inl h
        · exact .inr (by simp at h; simp [h])
      · exact .inl h
    · exact .inr (List.mem_cons_of_mem _ h)
theorem takenL_step {L : List PairR} {i : Nat} {a : PairR} (h : L[i]? = some a) : takenL pm pk [] (L.take (i + 1)) = if freeB pm pk a (takenL pm pk [] (L.take i)) = true then takenL pm pk [] (L.take i) ++ [a] else takenL pm pk [] (L.take i) := by
  obtain ⟨hi, rfl⟩ := List.getElem?_eq_some_iff.1 h
  rw [List.take_succ_eq_append_getElem hi, takenL_snoc]
theorem freeB_step {T : List PairR} {k : Nat} {a t : PairR} (h : T[k]? = some t) : freeB pm pk a (T.take (k + 1)) = (freeB pm pk a (T.take k) && !nearB pm pk a t) := by
  obtain ⟨hi, rfl⟩ := List.getElem?_eq_some_iff.1 h
  unfold freeB
  rw [List.take_succ_eq_append_getElem hi, List.all_append]
  simp
end
def twoOk (W H : Int) (xs : List Int) (pW pH : Int) (ys : List Int) : Bool := goodB W H xs && goodB pW pH ys
def apartN (W H : Int) (xs : List Int) (pW pH : Int) (ys : List Int) : Int := if twoOk W H xs pW pH ys = true then ((takenL pW.toNat pH.toNat [] (placesL W.toNat H.toNat xs pW.toNat pH.toNat ys)).length : Int) else 0
theorem two_no {W H : Int} {xs : List Int} {pW pH : Int} {ys : List Int} (h : goodB W H xs = false ∨ goodB pW pH ys = false) : twoOk W H xs pW pH ys = false := by rcases h with h | h <;> simp [twoOk, h]
theorem apart_no6 {W H : Int} {xs : List Int} {pW pH : Int} {ys : List Int} (h : goodB W H xs = false ∨ goodB pW pH ys = false) : apartN W H xs pW pH ys = 0 ∧ twoOk W H xs pW pH ys = false := by
  have := two_no h
  simp [apartN, this]
theorem apart_yes6 {W H : Int} {xs : List Int} {pW pH : Int} {ys : List Int} (h : goodB W H xs = true) (h' : goodB pW pH ys = true) : apartN W H xs pW pH ys = ((takenL pW.toNat pH.toNat [] (placesL W.toNat H.toNat xs pW.toNat pH.toNat ys)).length : Int) ∧ twoOk W H xs pW pH ys = true := by simp [apartN, twoOk, h, h']
theorem ret_ib {a a' : Int} {b b' : Bool} (h : a = a') (h' : b = b') : Ending.returned (.tuple #[.int .i64 a, .bool b]) = .returned (.tuple #[.int .i64 a', .bool b']) := by rw [h, h']
end Go.Proofs.Ytjfdcmdgpeeabaa
