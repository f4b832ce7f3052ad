/- Work sheets, rates and wages as data: valid ones, lists in order, wages and their sums. No condition. -/
import Derived.Test.YtihhlldpdfihfaaWorkSheetData
import Derived.Test.YtihhlldpdfihfaaRatesData
import Derived.Test.YtihhlldpdfihfaaBase
namespace Go.Proofs.Ytihhlldpdfihfaa
open Go.RowKit

def sheetB (s : WorkSheetR) : Bool := inB s.f0 1 99 && inB s.f1 0 4000 && inB s.f2 0 12000 && inB s.f3 0 s.f2 && inB s.f4 0 12
def ratesB (r : RatesR) : Bool := inB r.f0 0 10000 && inB r.f1 0 10000 && inB r.f2 0 10000 && inB r.f3 0 10000 && inB r.f4 0 10000
theorem sheet_of {s : WorkSheetR} (h : sheetB s = true) : (1 ≤ s.f0 ∧ s.f0 ≤ 99) ∧ (0 ≤ s.f1 ∧ s.f1 ≤ 4000) ∧ (0 ≤ s.f2 ∧ s.f2 ≤ 12000) ∧ (0 ≤ s.f3 ∧ s.f3 ≤ s.f2) ∧ (0 ≤ s.f4 ∧ s.f4 ≤ 12) := by
  simp only [sheetB, Bool.and_eq_true] at h
  obtain ⟨⟨⟨⟨h0, h1⟩, h2⟩, h3⟩, h4⟩ := h
  exact ⟨inB_yes h0, inB_yes h1, inB_yes h2, inB_yes h3, inB_yes h4⟩
theorem rates_of {r : RatesR} (h : ratesB r = true) : (0 ≤ r.f0 ∧ r.f0 ≤ 10000) ∧ (0 ≤ r.f1 ∧ r.f1 ≤ 10000) ∧ (0 ≤ r.f2 ∧ r.f2 ≤ 10000) ∧ (0 ≤ r.f3 ∧ r.f3 ≤ 10000) ∧ (0 ≤ r.f4 ∧ r.f4 ≤ 10000) := by
  simp only [ratesB, Bool.and_eq_true] at h
  obtain ⟨⟨⟨⟨h0, h1⟩, h2⟩, h3⟩, h4⟩ := h
  exact ⟨inB_yes h0, inB_yes h1, inB_yes h2, inB_yes h3, inB_yes h4⟩
/-- Numbers of a sheet that a wage can be reckoned of. -/
def Knotty (s : WorkSheetR) : Prop := (0 ≤ s.f2 ∧ s.f2 ≤ 12000) ∧ (0 ≤ s.f3 ∧ s.f3 ≤ s.f2) ∧ (0 ≤ s.f4 ∧ s.f4 ≤ 12)
theorem sheet_knotty {s : WorkSheetR} (h : sheetB s = true) : Knotty s := (sheet_of h).2.2
def bonusI (r : RatesR) (s : WorkSheetR) : Int := if 8000 ≤ s.f2 - s.f3 then r.f3 else 0
def wageI (r : RatesR) (s : WorkSheetR) : Int := mostI r.f2 (r.f0 * (s.f2 - s.f3) / 1000 + r.f1 * s.f4 + bonusI r s - r.f4 * (s.f3 / 100))
theorem mulBd {a b A B : Int} (h0 : 0 ≤ a) (h1 : a ≤ A) (h2 : 0 ≤ b) (h3 : b ≤ B) : 0 ≤ a * b ∧ a * b ≤ A * B :=
  ⟨Int.mul_nonneg h0 h2, Int.mul_le_mul h1 h3 h2 (Int.le_trans h0 h1)⟩
theorem wage_parts {r : RatesR} {s : WorkSheetR} (hr : ratesB r = true) (hs : Knotty s) :
    (0 ≤ r.f0 * (s.f2 - s.f3) ∧ r.f0 * (s.f2 - s.f3) ≤ 120000000) ∧ (0 ≤ r.f1 * s.f4 ∧ r.f1 * s.f4 ≤ 120000) ∧ (0 ≤ bonusI r s ∧ bonusI r s ≤ 10000) ∧ (0 ≤ r.f4 * (s.f3 / 100) ∧ r.f4 * (s.f3 / 100) ≤ 1200000) := by
  obtain ⟨⟨a0, a1⟩, ⟨b0, b1⟩, ⟨c0, c1⟩, ⟨d0, d1⟩, e0, e1⟩ := rates_of hr
  obtain ⟨⟨k0, k1⟩, ⟨w0, w1⟩, t0, t1⟩ := hs
  refine ⟨mulBd a0 a1 (show 0 ≤ s.f2 - s.f3 by omega) (show s.f2 - s.f3 ≤ 12000 by omega), mulBd b0 b1 t0 t1, ?_, mulBd e0 e1 (show 0 ≤ s.f3 / 100 by omega) (show s.f3 / 100 ≤ 120 by omega)⟩
  unfold bonusI
  split <;> omega
theorem wage_bd {r : RatesR} {s : WorkSheetR} (hr : ratesB r = true) (hs : Knotty s) : 0 ≤ wageI r s ∧ wageI r s ≤ 1000000 := by
  obtain ⟨h0, h1, h2, h3⟩ := wage_parts hr hs
  have h4 := (rates_of hr).2.2.1
  unfold wageI mostI
  split <;> omega
theorem wage_least {r : RatesR} (s : WorkSheetR) : r.f2 ≤ wageI r s := by
  unfold wageI mostI
  split <;> omega
/-- The order of sheets. -/
def bef (p a : WorkSheetR) : Prop := p.f1 < a.f1 ∨ p.f1 = a.f1 ∧ p.f0 < a.f0
/-- Up to a place all are valid and in order. -/
def STo (xs : List WorkSheetR) (k : Nat) : Prop :=
  (∀ i a, i < k → xs[i]? = some a → sheetB a = true) ∧ ∀ i a b, i + 1 < k → xs[i]? = some a → xs[i + 1]? = some b → bef a b
def Sheets (xs : List WorkSheetR) : Prop := xs.length ≤ 12 ∧ STo xs xs.length
noncomputable def sheetsB (xs : List WorkSheetR) : Bool := @decide (Sheets xs) (Classical.propDecidable _)
theorem sheetsB_yes {xs : List WorkSheetR} (h : Sheets xs) : sheetsB xs = true := @decide_eq_true _ (Classical.propDecidable _) h
theorem sheetsB_no {xs : List WorkSheetR} (h : ¬ Sheets xs) : sheetsB xs = false := @decide_eq_false _ (Classical.propDecidable _) h
theorem sheetsB_of {xs : List WorkSheetR} (h : sheetsB xs = true) : Sheets xs := @of_decide_eq_true _ (Classical.propDecidable _) h
theorem sTo_zero (xs : List WorkSheetR) : STo xs 0 := ⟨fun i a h => by omega, fun i a b h => by omega⟩
theorem sTo_step {xs : List WorkSheetR} {k : Nat} {a : WorkSheetR} (h : STo xs k) (ha : xs[k]? = some a) (hs : sheetB a = true) (hp : ∀ m p, m + 1 = k → xs[m]? = some p → bef p a) : STo xs (k + 1) := by
  refine ⟨fun i c hi hc => ?_, fun i c d hi hc hd => ?_⟩
  · rcases Nat.lt_or_ge i k with hlt | hge
    · exact h.1 i c hlt hc
    · obtain rfl : i = k := by omega
      rw [ha] at hc
      obtain rfl : a = c := Option.some.inj hc
      exact hs
  · rcases Nat.lt_or_ge (i + 1) k with hlt | hge
    · exact h.2 i c d hlt hc hd
    · obtain rfl : i + 1 = k := by omega
      rw [ha] at hd
      obtain rfl : a = d := Option.some.inj hd
      exact hp i c rfl hc
theorem sheets_long {xs : List WorkSheetR} (h : 12 < xs.length) : sheetsB xs = false := sheetsB_no fun hc => by have := hc.1; omega
theorem sheets_bad1 {xs : List WorkSheetR} {k : Nat} {a : WorkSheetR} (ha : xs[k]? = some a) (hs : sheetB a = false) : sheetsB xs = false :=
  sheetsB_no fun h => by rw [h.2.1 k a (List.getElem?_eq_some_iff.1 ha).1 ha] at hs; cases hs
theorem sheets_bad2 {xs : List WorkSheetR} {m k : Nat} {a p : WorkSheetR} (ha : xs[k]? = some a) (hp : xs[m]? = some p) (hm : m + 1 = k) (h : ¬ bef p a) : sheetsB xs = false :=
  sheetsB_no fun hc => by subst hm; exact h (hc.2.2 m p a (List.getElem?_eq_some_iff.1 ha).1 hp ha)
theorem sheets_at {xs : List WorkSheetR} (h : sheetsB xs = true) {i : Nat} {a : WorkSheetR} (ha : xs[i]? = some a) : sheetB a = true :=
  (sheetsB_of h).2.1 i a (List.getElem?_eq_some_iff.1 ha).1 ha
/-- All of a list are valid. -/
def AllS (xs : List WorkSheetR) : Prop := ∀ a ∈ xs, sheetB a = true
theorem sheets_all {xs : List WorkSheetR} (h : sheetsB xs = true) : AllS xs := fun a ha => by
  obtain ⟨i, hi, e⟩ := List.mem_iff_getElem.1 ha
  exact sheets_at h (i := i) (by rw [List.getElem?_eq_getElem hi, e])
theorem allS_at {xs : List WorkSheetR} (h : AllS xs) {i : Nat} {a : WorkSheetR} (ha : xs[i]? = some a) : sheetB a = true := h a (List.mem_of_getElem? ha)
theorem allS_filter {xs : List WorkSheetR} (h : AllS xs) (p : WorkSheetR → Bool) : AllS (xs.filter p) := fun a ha => h a (List.mem_filter.1 ha).1
/-- A filter, one element after the other. -/
theorem filt_drop {α : Type} (p : α → Bool) {xs : List α} {k : Nat} {a : α} (ha : xs[k]? = some a) : (xs.drop k).filter p = (if p a = true then [a] else []) ++ (xs.drop (k + 1)).filter p := by
  obtain ⟨hlt, e⟩ := List.getElem?_eq_some_iff.1 ha
  rw [List.drop_eq_getElem_cons hlt, e, List.filter_cons]
  by_cases h : p a = true
  · rw [if_pos h, if_pos h]; rfl
  · rw [if_neg h, if_neg h]; rfl
def ownP (v : Int) (a : WorkSheetR) : Bool := decide (a.f0 = v)
def ofW (xs : List WorkSheetR) (v : Int) : List WorkSheetR := xs.filter (ownP v)
theorem ofW_len (xs : List WorkSheetR) (v : Int) : (ofW xs v).length ≤ xs.length := List.length_filter_le _ _
def dayP (f t : Int) (a : WorkSheetR) : Bool := inB a.f1 f t
def onDays (xs : List WorkSheetR) (f t : Int) : List WorkSheetR := xs.filter (dayP f t)
theorem onDays_len (xs : List WorkSheetR) (f t : Int) : (onDays xs f t).length ≤ xs.length := List.length_filter_le _ _
def wageSum (r : RatesR) : List WorkSheetR → Int
  | [] => 0
  | a :: xs => wageI r a + wageSum r xs
theorem wageSum_app (r : RatesR) (xs ys : List WorkSheetR) : wageSum r (xs ++ ys) = wageSum r xs + wageSum r ys := by
  induction xs with
  | nil => simp [wageSum]
  | cons x xs ih => rw [List.cons_append, wageSum, wageSum, ih]; omega
theorem wageSum_drop {r : RatesR} {xs : List WorkSheetR} {k : Nat} {a : WorkSheetR} (ha : xs[k]? = some a) : wageSum r (xs.drop k) = wageI r a + wageSum r (xs.drop (k + 1)) := by
  obtain ⟨hlt, e⟩ := List.getElem?_eq_some_iff.1 ha
  rw [List.drop_eq_getElem_cons hlt, e]
  rfl
theorem wageSum_bd {r : RatesR} {xs : List WorkSheetR} (hr : ratesB r = true) (h : AllS xs) : 0 ≤ wageSum r xs ∧ wageSum r xs ≤ 1000000 * (xs.length : Int) := by
  induction xs with
  | nil => simp [wageSum]
  | cons x xs ih =>
    have h1 := ih fun a ha => h a (List.mem_cons_of_mem _ ha)
    have h2 := wage_bd hr (sheet_knotty (h x (List.mem_cons_self ..)))
    rw [wageSum, List.length_cons]
    constructor <;> omega
/-- The wages of a weaver on some days. -/
def paid (r : RatesR) (xs : List WorkSheetR) (v f t : Int) : Int := wageSum r (onDays (ofW xs v) f t)
theorem paid_one (r : RatesR) (xs : List WorkSheetR) (v f t : Int) : paid r xs v f t = wageSum r (xs.filter fun a => ownP v a && dayP f t a) := by
  unfold paid onDays ofW
  rw [List.filter_filter]
  congr 1
  apply List.filter_congr
  intro a _
  exact Bool.and_comm _ _
theorem paid_all {r : RatesR} {xs : List WorkSheetR} (h : AllS xs) (v : Int) : paid r xs v 0 4000 = wageSum r (ofW xs v) := by
  unfold paid onDays
  rw [List.filter_eq_self.2]
  intro a ha
  have := (sheet_of (allS_filter h (ownP v) a ha)).2.1
  unfold dayP inB
  rw [decide_eq_true_iff]
  exact this
theorem paid_bd {r : RatesR} {xs : List WorkSheetR} (hr : ratesB r = true) (h : sheetsB xs = true) (v f t : Int) : 0 ≤ paid r xs v f t ∧ paid r xs v f t ≤ 12000000 := by
  have h1 := wageSum_bd hr (allS_filter (allS_filter (sheets_all h) (ownP v)) (dayP f t))
  have h2 := onDays_len (ofW xs v) f t
  have h3 := ofW_len xs v
  have h4 := (sheetsB_of h).1
  unfold paid
  unfold onDays ofW at *
  omega
end Go.Proofs.Ytihhlldpdfihfaa
