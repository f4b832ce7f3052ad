/- Pairs of shades that are apart today and near after some years, as plain mathematics. No condition. -/
import Derived.Test.YtmdgclbcjjmpiaaNearMath
import Derived.Test.YtmdgclbcjjmpiaaFade
namespace Go.Proofs.Ytmdgclbcjjmpiaa
open Go.RowKit

def fadD (ye : Int) (a : ShadeR) : Int := max (a.f3 - ye / (5 * a.f4)) 0
def nowD (a b : ShadeR) : Int := distI a.f2 a.f3 b.f2 b.f3
def thenD (ye : Int) (a b : ShadeR) : Int := distI a.f2 (fadD ye a) b.f2 (fadD ye b)
def pairB (ye le : Int) (a b : ShadeR) : Bool := decide (le ≤ nowD a b) && decide (thenD ye a b < le)
def bRows (ye le : Int) (a : ShadeR) : List ShadeR → List (List Int)
  | [] => []
  | b :: r => (if pairB ye le a b = true then [[a.f0, b.f0]] else []) ++ bRows ye le a r
def aRows (ye le : Int) : List ShadeR → List (List Int)
  | [] => []
  | a :: r => bRows ye le a r ++ aRows ye le r
theorem bRows_len (ye le : Int) (a : ShadeR) (l : List ShadeR) : (bRows ye le a l).length ≤ l.length ∧ ((bRows ye le a l).map List.length).sum ≤ 2 * l.length := by
  induction l with
  | nil => exact ⟨Nat.le_refl _, Nat.le_refl _⟩
  | cons c r ih =>
    rw [bRows]
    split
    · simp; omega
    · simp; omega
theorem aRows_len (ye le : Int) (l : List ShadeR) (n : Nat) (h : l.length ≤ n) : (aRows ye le l).length ≤ n * l.length ∧ ((aRows ye le l).map List.length).sum ≤ 2 * (n * l.length) := by
  induction l with
  | nil => exact ⟨Nat.zero_le _, Nat.zero_le _⟩
  | cons b r ih =>
    have h1 := bRows_len ye le b r
    have h2 := ih (by simp at h; omega)
    simp only [List.length_cons] at h
    rw [aRows, List.length_append, List.map_append, List.sum_append_nat, List.length_cons, Nat.mul_succ]
    omega
theorem bRows_at {ye le : Int} {a b : ShadeR} {xs : List ShadeR} {k : Nat} (h : xs[k]? = some b) : bRows ye le a (xs.drop k) = (if pairB ye le a b = true then [[a.f0, b.f0]] else []) ++ bRows ye le a (xs.drop (k + 1)) := by
  obtain ⟨hk, rfl⟩ := List.getElem?_eq_some_iff.1 h
  rw [List.drop_eq_getElem_cons hk, bRows]
theorem aRows_at {ye le : Int} {a : ShadeR} {xs : List ShadeR} {k : Nat} (h : xs[k]? = some a) : aRows ye le (xs.drop k) = bRows ye le a (xs.drop (k + 1)) ++ aRows ye le (xs.drop (k + 1)) := by
  obtain ⟨hk, rfl⟩ := List.getElem?_eq_some_iff.1 h
  rw [List.drop_eq_getElem_cons hk, aRows]
theorem bRows_none (ye le : Int) (a : ShadeR) {xs : List ShadeR} {k : Nat} (h : xs.length ≤ k) : bRows ye le a (xs.drop k) = [] := by rw [List.drop_of_length_le h]; rfl
theorem aRows_none (ye le : Int) {xs : List ShadeR} {k : Nat} (h : xs.length ≤ k) : aRows ye le (xs.drop k) = [] := by rw [List.drop_of_length_le h]; rfl
theorem bRows_yes {ye le : Int} {a s : ShadeR} {zs : List ShadeR} {k : Nat} {acc R T : List (List Int)} (h : zs[k]? = some s) (h1 : le ≤ nowD a s) (h2 : thenD ye a s < le) (ha : acc ++ (bRows ye le a (zs.drop k) ++ R) = T) :
    (acc ++ [[a.f0, s.f0]]) ++ (bRows ye le a (zs.drop (k + 1)) ++ R) = T := by
  rw [bRows_at h, if_pos (by simp [pairB, h1, h2])] at ha
  rw [← ha]; simp
theorem bRows_no {ye le : Int} {a s : ShadeR} {zs : List ShadeR} {k : Nat} {acc R T : List (List Int)} (h : zs[k]? = some s) (hn : ¬ (le ≤ nowD a s ∧ thenD ye a s < le)) (ha : acc ++ (bRows ye le a (zs.drop k) ++ R) = T) :
    acc ++ (bRows ye le a (zs.drop (k + 1)) ++ R) = T := by
  rw [bRows_at h, if_neg (by simpa [pairB] using hn)] at ha
  exact ha
/-- Whether a list, years and a distance are answered, and with what. -/
noncomputable def apartOk (xs : List ShadeR) (ye le : Int) : Bool := cardB xs && inB ye 0 200 && inB le 0 33
noncomputable def apartX (xs : List ShadeR) (ye le : Int) : List (List Int) := if apartOk xs ye le = true then aRows ye le xs else []
theorem apart_no {xs : List ShadeR} {ye le : Int} (h : cardB xs = false ∨ inB ye 0 200 = false ∨ inB le 0 33 = false) : apartX xs ye le = [] ∧ apartOk xs ye le = false := by
  have : apartOk xs ye le = false := by rcases h with h | h | h <;> simp [apartOk, h]
  simp [apartX, this]
theorem apart_yes {xs : List ShadeR} {ye le : Int} (h : cardB xs = true) (h' : inB ye 0 200 = true) (h'' : inB le 0 33 = true) : apartX xs ye le = aRows ye le xs ∧ apartOk xs ye le = true := by simp [apartX, apartOk, h, h', h'']
theorem apartX_len (xs : List ShadeR) (ye le : Int) : (apartX xs ye le).length ≤ 100000 ∧ ((apartX xs ye le).map List.length).sum ≤ 100000 := by
  unfold apartX
  split
  · rename_i h
    have hc : cardB xs = true := by unfold apartOk at h; simp at h; exact h.1.1
    have hl : xs.length ≤ 10 := (cardB_of hc).1
    have h1 := aRows_len ye le xs xs.length (Nat.le_refl _)
    have h2 : xs.length * xs.length ≤ 10 * 10 := Nat.mul_le_mul hl hl
    omega
  · simp
theorem fad_deep {a : ShadeR} {ye : Int} (h : Deep a.f3) (h4 : 1 ≤ a.f4 ∧ a.f4 ≤ 8) (hy : 0 ≤ ye ∧ ye ≤ 200) : Deep (fadD ye a) := by
  obtain ⟨d0, d1⟩ := fade_bd h4 hy
  obtain ⟨h0, h1⟩ := h
  unfold fadD Deep
  omega
theorem dist_bd {a b c d : Int} (hb : Deep b) (hd : Deep d) : 0 ≤ distI a b c d ∧ distI a b c d ≤ 33 := by
  have := gapI_bd a c
  obtain ⟨b0, b1⟩ := hb
  obtain ⟨d0, d1⟩ := hd
  unfold distI
  omega
end Go.Proofs.Ytmdgclbcjjmpiaa
