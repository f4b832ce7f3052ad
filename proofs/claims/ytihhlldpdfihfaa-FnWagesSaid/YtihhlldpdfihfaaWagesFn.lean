/- What the law FnWages asks of the plain functions. No condition. -/
import Derived.Test.YtihhlldpdfihfaaPay
import Derived.Test.YtihhlldpdfihfaaSheet1
import Derived.Test.YtihhlldpdfihfaaKnotsM
import Derived.Test.YtihhlldpdfihfaaWords14
namespace Go.Proofs.Ytihhlldpdfihfaa
open Go.RowKit

def oneAt (a c v : Int) : Int := if a = v then c else 0
theorem sumI_add {f g h : Int → Int} (hf : ∀ v, h v = f v + g v) (vs : List Int) : sumI (vs.map h) = sumI (vs.map f) + sumI (vs.map g) := by
  induction vs with
  | nil => rfl
  | cons v vs ih =>
    show h v + sumI (vs.map h) = (f v + sumI (vs.map f)) + (g v + sumI (vs.map g))
    rw [ih, hf]
    omega
theorem sumI_zero {f : Int → Int} (vs : List Int) (h : ∀ v ∈ vs, f v = 0) : sumI (vs.map f) = 0 := by
  induction vs with
  | nil => rfl
  | cons v vs ih =>
    show f v + sumI (vs.map f) = 0
    rw [ih (fun x hx => h x (List.mem_cons_of_mem _ hx)), h v (by simp)]
    rfl
theorem sumI_one {a c : Int} {vs : List Int} (hp : vs.Pairwise (· < ·)) (hm : a ∈ vs) : sumI (vs.map (oneAt a c)) = c := by
  induction vs with
  | nil => cases hm
  | cons v vs ih =>
    obtain ⟨h1, h2⟩ := List.pairwise_cons.1 hp
    show oneAt a c v + sumI (vs.map (oneAt a c)) = c
    rcases List.mem_cons.1 hm with e | hm2
    · rw [sumI_zero vs (fun x hx => by unfold oneAt; have := h1 x hx; rw [if_neg (by omega)])]
      unfold oneAt
      rw [if_pos e]
      omega
    · rw [ih h2 hm2]
      have := h1 a hm2
      unfold oneAt
      rw [if_neg (by omega)]
      omega
theorem ofW_cons (r : RatesR) (x : WorkSheetR) (xs : List WorkSheetR) (v : Int) : wageSum r (ofW (x :: xs) v) = oneAt x.f0 (wageI r x) v + wageSum r (ofW xs v) := by
  unfold ofW oneAt
  rw [List.filter_cons]
  by_cases h : x.f0 = v
  · rw [if_pos (show ownP v x = true from decide_eq_true h), if_pos h]
    rfl
  · rw [if_neg (show ¬ ownP v x = true from fun hh => h (of_decide_eq_true hh)), if_neg h, Int.zero_add]
theorem sums_all (r : RatesR) {vs : List Int} (hp : vs.Pairwise (· < ·)) : ∀ (xs : List WorkSheetR), (∀ a ∈ xs, a.f0 ∈ vs) → sumI (sums14 r xs vs) = wageSum r xs := by
  intro xs
  induction xs with
  | nil =>
    intro _
    unfold sums14
    exact sumI_zero vs fun _ _ => rfl
  | cons x xs ih =>
    intro h
    have h2 := ih (fun a ha => h a (List.mem_cons_of_mem _ ha))
    unfold sums14 at *
    rw [sumI_add (ofW_cons r x xs) vs, sumI_one hp (h x (by simp)), h2]
    rfl
theorem weavers_has {xs : List WorkSheetR} {a : WorkSheetR} (ha : a ∈ xs) : a.f0 ∈ weavers14 xs := by
  unfold weavers14
  rw [setI_mem]
  exact List.mem_map.2 ⟨a, ha, rfl⟩
/-- What stands of a pay roll, if there is one. -/
theorem pay_facts {r : RatesR} {xs : List WorkSheetR} {W Sm : List Int} (h1 : (pay14 r xs).1 = W) (h2 : (pay14 r xs).2.1 = Sm) (h : (pay14 r xs).2.2 = true) : xs.length ≤ 12 ∧ Sm.length ≤ 1000 ∧ (0 ≤ wageSum r xs ∧ wageSum r xs ≤ 12000000) ∧
    (∀ (k : Nat) (a : WorkSheetR), xs[k]? = some a → decide (a.f0 ∈ W) = true ∧ wage14 r a = (wageI r a, true) ∧ r.f2 ≤ wageI r a ∧ (0 ≤ wageI r a ∧ wageI r a ≤ 1000000)) ∧ (∀ x ∈ Sm, 0 ≤ x ∧ x ≤ 100000000) ∧ sumI Sm = wageSum r xs := by
  by_cases hg : ratesB r = true ∧ sheetsB xs = true
  · rw [pay14_yes hg.1 hg.2] at h1 h2
    simp only at h1 h2
    subst h1 h2
    have hl := (sheetsB_of hg.2).1
    have h3 := sums14_len r xs (weavers14 xs)
    have h4 := weavers14_len xs
    have h5 := wageSum_bd hg.1 (sheets_all hg.2)
    refine ⟨hl, by omega, by omega, fun k a ha => ⟨decide_eq_true (weavers_has (List.mem_of_getElem? ha)), wage14_yes hg.1 (sheets_at hg.2 ha), wage_least a, wage_bd hg.1 (sheet_knotty (sheets_at hg.2 ha))⟩, fun x hx => ?_, sums_all r (setI_asc _) xs fun a ha => weavers_has ha⟩
    obtain ⟨v, _, e⟩ := List.mem_map.1 hx
    have := wageOf_bd hg.1 hg.2 v
    omega
  · have : pay14 r xs = ([], [], false) := if_neg hg
    rw [this] at h
    cases h
/-- What a sheet of plain knots brings. -/
def sheetK (n : Int) : WorkSheetR := ⟨1, 0, n, 0, 0⟩
theorem wage_plain (r : RatesR) (n : Int) : wageI r (sheetK n) = kW r n := rfl
theorem sheetK_valid {n : Int} (h0 : 0 ≤ n) (h1 : n ≤ 12000) : sheetB (sheetK n) = true := by
  unfold sheetB sheetK inB
  simp only [Bool.and_eq_true, decide_eq_true_eq]
  omega
theorem wage14_bd (r : RatesR) (s : WorkSheetR) : 0 ≤ (wage14 r s).1 ∧ (wage14 r s).1 ≤ 1000000 := by
  unfold wage14
  split
  · next h => exact wage_bd h.1 (sheet_knotty h.2)
  · exact ⟨Int.le_refl 0, by show (0 : Int) ≤ 1000000; omega⟩
theorem wage14_ok (r : RatesR) (s : WorkSheetR) : (wage14 r s).2 = (ratesB r && sheetB s) := by
  unfold wage14
  split
  · next h => rw [h.1, h.2]; rfl
  · next h =>
    cases h1 : ratesB r with
    | false => rfl
    | true =>
      cases h2 : sheetB s with
      | false => rfl
      | true => exact absurd ⟨h1, h2⟩ h
theorem first_or (r : RatesR) (cents : Int) : ∀ N : Nat, N ≤ 12001 → (∀ n : Nat, n < N → kW r n < cents) ∨ ∃ k, FirstK r cents k := by
  intro N
  induction N with
  | zero => intro _; exact .inl fun n hn => by omega
  | succ N ih =>
    intro hN
    rcases ih (by omega) with h | h
    · rcases Int.lt_or_le (kW r N) cents with h2 | h2
      · exact .inl fun n hn => by
          rcases Nat.lt_or_ge n N with h3 | h3
          · exact h n h3
          · obtain rfl : n = N := by omega
            exact h2
      · exact .inr ⟨N, h, fun _ => h2, by omega⟩
    · exact .inr h
theorem first_ex (r : RatesR) (cents : Int) : ∃ k, FirstK r cents k := by
  rcases first_or r cents 12001 (Nat.le_refl _) with h | h
  · exact ⟨12001, h, fun hh => by omega, Nat.le_refl _⟩
  · exact h
/-- Enough knots, and one less is not enough. -/
theorem knots_facts {r : RatesR} {cents q : Int} (h1 : (knots14 r cents).1 = q) (h : (knots14 r cents).2 = true) : (0 ≤ q ∧ q ≤ 12000) ∧ (0 ≤ cents ∧ cents ≤ 1000000) ∧
    (∃ z : Int, wage14 r (sheetK q) = (z, true) ∧ cents ≤ z ∧ (0 ≤ z ∧ z ≤ 1000000)) ∧ (∃ (z : Int) (b : Bool), wage14 r (sheetK (q - 1)) = (z, b) ∧ (0 ≤ z ∧ z ≤ 1000000) ∧ (b = true → z < cents)) := by
  by_cases hg : ratesB r = true ∧ inB cents 0 1000000 = true
  · have hk : firstK r cents ≤ 12000 := by
      rcases Nat.lt_or_ge 12000 (firstK r cents) with hlt | hge
      · unfold knots14 at h
        rw [if_pos hg, if_neg (by omega)] at h
        cases h
      · exact hge
    have hF : FirstK r cents (firstK r cents) := by
      obtain ⟨k, hk⟩ := first_ex r cents
      rw [firstK_eq hk]
      exact hk
    have he : q = (firstK r cents : Int) := by
      rw [← h1]
      unfold knots14
      rw [if_pos hg, if_pos hk]
    obtain ⟨f1, f2, f3⟩ := hF
    generalize firstK r cents = k at *
    subst he
    have hc := inB_yes hg.2
    have hv := sheetK_valid (n := (k : Int)) (by omega) (by omega)
    refine ⟨⟨by omega, by omega⟩, hc, ⟨wageI r (sheetK k), wage14_yes hg.1 hv, f2 hk, wage_bd hg.1 (sheet_knotty hv)⟩, (wage14 r (sheetK (k - 1))).1, (wage14 r (sheetK (k - 1))).2, rfl, wage14_bd r _, fun hb => ?_⟩
    have hok := wage14_ok r (sheetK (k - 1))
    rw [hb] at hok
    have hs : sheetB (sheetK ((k : Int) - 1)) = true := by
      cases hz : sheetB (sheetK ((k : Int) - 1)) with
      | true => rfl
      | false => rw [hz, Bool.and_false] at hok; cases hok
    rw [wage14_yes hg.1 hs]
    have h0 := (sheet_of hs).2.2.1.1
    have h0' : 0 ≤ (k : Int) - 1 := h0
    have := f1 (k - 1) (by omega)
    rw [show ((k - 1 : Nat) : Int) = (k : Int) - 1 by omega] at this
    exact this
  · rw [knots_no hg] at h
    cases h
end Go.Proofs.Ytihhlldpdfihfaa
