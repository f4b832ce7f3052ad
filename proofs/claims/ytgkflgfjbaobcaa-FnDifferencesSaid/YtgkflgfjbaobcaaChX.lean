/- Plain mathematics of charts of one size, of photographs that are merged. No condition. -/
import Derived.Test.YtgkflgfjbaobcaaSameSize
namespace Go.Proofs.Ytgkflgfjbaobcaa
open Go.RowKit

def okM (W0 H0 : Int) (xs0 : List Int) (W1 H1 : Int) (xs1 : List Int) (W2 H2 : Int) (xs2 : List Int) : Bool := sizeB W0 H0 xs0 W1 H1 xs1 && sizeB W0 H0 xs0 W2 H2 xs2
theorem fits_self {W H : Int} {A : Option Addr} {c : Nat} {xs : List Int} : fitsB ⟨W, H, A, c, xs⟩ ⟨W, H, A, c, xs⟩ = goodB W H xs := by simp [fitsB]
theorem fits_other {W H W' H' : Int} {A A' : Option Addr} {c c' : Nat} {xs ys : List Int} : fitsB ⟨W, H, A, c, xs⟩ ⟨W', H', A', c', ys⟩ = (goodB W' H' ys && (W == W') && (H == H')) := by
  unfold fitsB
  rw [Bool.eq_iff_iff]
  simp only [Bool.and_eq_true, Bool.not_eq_true', bne_eq_false_iff_eq, beq_iff_eq]
  constructor
  · rintro ⟨⟨a, b⟩, c⟩; exact ⟨⟨a, b.symm⟩, c.symm⟩
  · rintro ⟨⟨a, b⟩, c⟩; exact ⟨⟨a, b.symm⟩, c.symm⟩
theorem two_lit {W0 H0 W1 H1 : Int} (A0 A1 : Option Addr) (c0 c1 : Nat) {xs0 xs1 : List Int} : ([⟨W0, H0, A0, c0, xs0⟩, ⟨W1, H1, A1, c1, xs1⟩] : List ChR).all (fitsB ⟨W0, H0, A0, c0, xs0⟩) = sizeB W0 H0 xs0 W1 H1 xs1 := by
  simp only [List.all_cons, List.all_nil, Bool.and_true, fits_other, sizeB, beq_self_eq_true]
  cases goodB W0 H0 xs0 <;> cases goodB W1 H1 xs1 <;> cases (W0 == W1) <;> cases (H0 == H1) <;> rfl
theorem three_lit {W0 H0 W1 H1 W2 H2 : Int} (A0 A1 A2 : Option Addr) (c0 c1 c2 : Nat) {xs0 xs1 xs2 : List Int} : ([⟨W0, H0, A0, c0, xs0⟩, ⟨W1, H1, A1, c1, xs1⟩, ⟨W2, H2, A2, c2, xs2⟩] : List ChR).all (fitsB ⟨W0, H0, A0, c0, xs0⟩) = okM W0 H0 xs0 W1 H1 xs1 W2 H2 xs2 := by
  simp only [List.all_cons, List.all_nil, Bool.and_true, fits_other, sizeB, okM, beq_self_eq_true]
  cases goodB W0 H0 xs0 <;> cases goodB W1 H1 xs1 <;> cases goodB W2 H2 xs2 <;> cases (W0 == W1) <;> cases (H0 == H1) <;> cases (W0 == W2) <;> cases (H0 == H2) <;> rfl
section
variable {W0 H0 W1 H1 W2 H2 : Int} {xs0 xs1 xs2 : List Int}
theorem okM_lit (A0 A1 A2 : Option Addr) (c0 c1 c2 : Nat) {ok : Bool} (h : okM W0 H0 xs0 W1 H1 xs1 W2 H2 xs2 = ok) : ([⟨W0, H0, A0, c0, xs0⟩, ⟨W1, H1, A1, c1, xs1⟩, ⟨W2, H2, A2, c2, xs2⟩] : List ChR).all (fitsB ⟨W0, H0, A0, c0, xs0⟩) = ok := (three_lit A0 A1 A2 c0 c1 c2).trans h
theorem okM_s1 (h : sizeB W0 H0 xs0 W1 H1 xs1 = false) : okM W0 H0 xs0 W1 H1 xs1 W2 H2 xs2 = false := by unfold okM; rw [h]; rfl
theorem okM_s2 (h : sizeB W0 H0 xs0 W2 H2 xs2 = false) : okM W0 H0 xs0 W1 H1 xs1 W2 H2 xs2 = false := by unfold okM; rw [h, Bool.and_false]
theorem okM_s3 (h : sizeB W0 H0 xs0 W1 H1 xs1 = true) (h2 : sizeB W0 H0 xs0 W2 H2 xs2 = true) : okM W0 H0 xs0 W1 H1 xs1 W2 H2 xs2 = true := by unfold okM; rw [h, h2]; rfl
theorem size_open (h : sizeB W0 H0 xs0 W1 H1 xs1 = true) : ∃ m k : Nat, W0 = m ∧ H0 = k ∧ W1 = m ∧ H1 = k ∧ Hid (xs1.length = xs0.length) ∧ Hid (xs0.length = m * k) ∧ 1 ≤ m ∧ m ≤ 8 ∧ 1 ≤ k ∧ k ≤ 8 ∧ xs0.length ≤ 64 ∧ 0 < xs0.length ∧ (∀ x ∈ xs0, 0 ≤ x ∧ x < 6) ∧ ∀ x ∈ xs1, 0 ≤ x ∧ x < 6 := by
  unfold sizeB at h
  simp only [Bool.and_eq_true, beq_iff_eq] at h
  obtain ⟨⟨⟨h1, h2⟩, rfl⟩, rfl⟩ := h
  obtain ⟨m, k, rfl, rfl, m1, m8, k1, k8, hl, h64, hl1, hx⟩ := good_nat h1
  obtain ⟨m', k', e1, e2, _, _, _, _, hl', _, _, hx'⟩ := good_nat h2
  obtain rfl : m = m' := by omega
  obtain rfl : k = k' := by omega
  exact ⟨m, k, rfl, rfl, rfl, rfl, hl'.out.trans hl.out.symm, hl, m1, m8, k1, k8, h64, by omega, hx, hx'⟩
theorem okM_open (h : okM W0 H0 xs0 W1 H1 xs1 W2 H2 xs2 = true) : ∃ m k : Nat, W0 = m ∧ H0 = k ∧ W1 = m ∧ H1 = k ∧ W2 = m ∧ H2 = k ∧ Hid (xs1.length = xs0.length) ∧ Hid (xs2.length = xs0.length) ∧ xs0.length ≤ 64 ∧ 0 < xs0.length := by
  unfold okM at h
  simp only [Bool.and_eq_true] at h
  obtain ⟨m, k, rfl, rfl, rfl, rfl, hl, _, _, _, _, _, h64, h1, _⟩ := size_open h.1
  obtain ⟨m', k', e1, e2, rfl, rfl, hl', _⟩ := size_open h.2
  obtain rfl : m = m' := by omega
  obtain rfl : k = k' := by omega
  exact ⟨m, k, rfl, rfl, rfl, rfl, rfl, rfl, hl, hl', h64, h1⟩
end
/-- The knots after p places were merged. -/
def mgL (xs ys zs : List Int) (p : Nat) : List Int := (List.range xs.length).map fun j => if j < p ∧ ys.getD j 0 = zs.getD j 0 then ys.getD j 0 else xs.getD j 0
section
variable {xs ys zs : List Int} {p : Nat}
theorem mgL_len : (mgL xs ys zs p).length = xs.length := by simp [mgL]
theorem mgL_zero (xs ys zs : List Int) : mgL xs ys zs 0 = xs := by
  apply List.ext_getElem
  · simp [mgL]
  · intro i h1 h2
    simp only [mgL, List.getElem_map, List.getElem_range, Nat.not_lt_zero, false_and, if_false]
    exact getD_at h2
theorem mgL_yes {v : Int} (_ : p < xs.length) (hv : ys.getD p 0 = v) (he : zs.getD p 0 = v) : (mgL xs ys zs p).set p v = mgL xs ys zs (p + 1) := by
  apply List.ext_getElem
  · simp [mgL]
  · intro i h1 h2
    rw [List.getElem_set]
    simp only [mgL, List.getElem_map, List.getElem_range]
    by_cases e : p = i
    · subst e
      rw [if_pos rfl, if_pos ⟨by omega, by rw [hv, he]⟩, hv]
    · rw [if_neg e]
      by_cases hi : i < p
      · simp [hi, show i < p + 1 by omega]
      · simp [hi, show ¬ i < p + 1 by omega]
theorem mgL_no (_ : p < xs.length) (he : ¬ ys.getD p 0 = zs.getD p 0) : mgL xs ys zs p = mgL xs ys zs (p + 1) := by
  apply List.ext_getElem
  · simp [mgL]
  · intro i h1 h2
    simp only [mgL, List.getElem_map, List.getElem_range]
    by_cases e : p = i
    · subst e
      rw [if_neg (by omega), if_neg (by rintro ⟨_, h⟩; exact he h)]
    · by_cases hi : i < p
      · simp [hi, show i < p + 1 by omega]
      · simp [hi, show ¬ i < p + 1 by omega]
end
def mgX (W0 H0 : Int) (xs0 : List Int) (W1 H1 : Int) (xs1 : List Int) (W2 H2 : Int) (xs2 : List Int) : List Int := if okM W0 H0 xs0 W1 H1 xs1 W2 H2 xs2 = true then mgL xs0 xs1 xs2 xs0.length else []
section
variable {W0 H0 W1 H1 W2 H2 : Int} {xs0 xs1 xs2 : List Int}
theorem mgX_no (h : okM W0 H0 xs0 W1 H1 xs1 W2 H2 xs2 = false) : mgX W0 H0 xs0 W1 H1 xs1 W2 H2 xs2 = [] := if_neg (by rw [h]; decide)
theorem mgX_yes (h : okM W0 H0 xs0 W1 H1 xs1 W2 H2 xs2 = true) : mgX W0 H0 xs0 W1 H1 xs1 W2 H2 xs2 = mgL xs0 xs1 xs2 xs0.length := if_pos h
theorem mgX_len : (mgX W0 H0 xs0 W1 H1 xs1 W2 H2 xs2).length ≤ 1048576 := by
  unfold mgX
  split
  · rename_i h
    obtain ⟨m, k, _, _, _, _, _, _, _, _, h64, _⟩ := okM_open h
    rw [mgL_len]; omega
  · simp
end
end Go.Proofs.Ytgkflgfjbaobcaa
