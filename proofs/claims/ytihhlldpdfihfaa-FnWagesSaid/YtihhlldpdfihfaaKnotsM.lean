/- The fewest knots for a wage, as data. No condition. -/
import Derived.Test.YtihhlldpdfihfaaSheetMath
namespace Go.Proofs.Ytihhlldpdfihfaa
open Go.RowKit

/-- A sheet of right knots alone. -/
def plainS (n : Int) : WorkSheetR := ⟨0, 0, n, 0, 0⟩
theorem plain_knotty {n : Int} (h0 : 0 ≤ n) (h1 : n ≤ 12000) : Knotty (plainS n) := ⟨⟨h0, h1⟩, ⟨Int.le_refl 0, h0⟩, ⟨Int.le_refl 0, (show (0 : Int) ≤ 12 by omega)⟩⟩
def kW (r : RatesR) (n : Int) : Int := wageI r (plainS n)
theorem kW_mono {r : RatesR} (hr : ratesB r = true) {a b : Int} (h : a ≤ b) : kW r a ≤ kW r b := by
  obtain ⟨⟨a0, _⟩, _, _, ⟨d0, _⟩, _⟩ := rates_of hr
  have h1 : r.f0 * (a - 0) ≤ r.f0 * (b - 0) := Int.mul_le_mul_of_nonneg_left (by omega) a0
  have h2 : r.f0 * (a - 0) / 1000 ≤ r.f0 * (b - 0) / 1000 := Int.ediv_le_ediv (by decide) h1
  have h3 : bonusI r (plainS a) ≤ bonusI r (plainS b) := by
    unfold bonusI plainS
    simp only
    split <;> split <;> omega
  unfold kW wageI mostI
  unfold plainS at *
  simp only at *
  split <;> split <;> omega
/-- The first number that brings the cents. -/
def FirstK (r : RatesR) (cents : Int) (k : Nat) : Prop := (∀ n : Nat, n < k → kW r n < cents) ∧ (k ≤ 12000 → cents ≤ kW r k) ∧ k ≤ 12001
theorem firstK_one {r : RatesR} {cents : Int} {j k : Nat} (hj : FirstK r cents j) (hk : FirstK r cents k) : j = k := by
  rcases Nat.lt_trichotomy j k with h | h | h
  · have h1 := hk.1 j h
    have h2 := hj.2.1 (by have := hk.2.2; omega)
    omega
  · exact h
  · have h1 := hj.1 k h
    have h2 := hk.2.1 (by have := hj.2.2; omega)
    omega
noncomputable def firstK (r : RatesR) (cents : Int) : Nat := @Classical.epsilon Nat ⟨0⟩ (FirstK r cents)
theorem firstK_eq {r : RatesR} {cents : Int} {k : Nat} (h : FirstK r cents k) : firstK r cents = k :=
  firstK_one (@Classical.epsilon_spec_aux Nat ⟨0⟩ (FirstK r cents) ⟨k, h⟩) h
noncomputable def knots14 (r : RatesR) (cents : Int) : Int × Bool :=
  if ratesB r = true ∧ inB cents 0 1000000 = true then (if firstK r cents ≤ 12000 then ((firstK r cents : Int), true) else (0, false)) else (0, false)
theorem knots_no {r : RatesR} {cents : Int} (h : ¬ (ratesB r = true ∧ inB cents 0 1000000 = true)) : knots14 r cents = (0, false) := if_neg h
theorem knots_far {r : RatesR} {cents : Int} {k : Nat} (h1 : ratesB r = true) (h2 : inB cents 0 1000000 = true) (h : FirstK r cents k) (hk : ¬ k ≤ 12000) : knots14 r cents = (0, false) := by
  unfold knots14
  rw [if_pos ⟨h1, h2⟩, firstK_eq h, if_neg hk]
theorem knots_at {r : RatesR} {cents : Int} {k : Nat} (h1 : ratesB r = true) (h2 : inB cents 0 1000000 = true) (h : FirstK r cents k) (hk : k ≤ 12000) : knots14 r cents = ((k : Int), true) := by
  unfold knots14
  rw [if_pos ⟨h1, h2⟩, firstK_eq h, if_pos hk]
/-- Where a search by halves stands: all below i bring less, j and more bring enough. -/
def Halves (r : RatesR) (cents : Int) (N i j : Nat) : Prop := i ≤ j ∧ j ≤ N ∧ (∀ n : Nat, n < i → kW r n < cents) ∧ (j < N → cents ≤ kW r j)
theorem halves_low {r : RatesR} {cents : Int} {N i j h : Nat} (hr : ratesB r = true) (H : Halves r cents N i j) (hh : h < j) (hk : kW r (h : Nat) < cents) : Halves r cents N (h + 1) j :=
  ⟨by omega, H.2.1, fun n hn => by have := kW_mono hr (a := (n : Int)) (b := (h : Int)) (by omega); omega, H.2.2.2⟩
theorem halves_high {r : RatesR} {cents : Int} {N i j h : Nat} (H : Halves r cents N i j) (hi : i ≤ h) (hh : h < j) (hk : cents ≤ kW r (h : Nat)) : Halves r cents N i h :=
  ⟨hi, by have := H.2.1; omega, H.2.2.1, fun _ => hk⟩
end Go.Proofs.Ytihhlldpdfihfaa
