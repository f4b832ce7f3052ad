/- What the law FnSheets asks of the plain functions. No condition. -/
import Derived.Test.YtnpojmaipndpmaaCareful
import Derived.Test.YtnpojmaipndpmaaBestDay
import Derived.Test.YtnpojmaipndpmaaMissed
namespace Go.Proofs.Ytnpojmaipndpmaa
open Go.RowKit

theorem careful_has {xs : List WorkSheetR} (h : (careful14 xs).2 = true) {k : Nat} {a : WorkSheetR} (ha : xs[k]? = some a) : a.f0 ∈ (careful14 xs).1 := by
  unfold careful14 at *
  split at h
  · next hg =>
    rw [if_pos hg]
    simp only
    rw [sortE_mem]
    unfold weavers14
    rw [setI_mem]
    exact List.mem_map.2 ⟨a, List.mem_of_getElem? ha, rfl⟩
  · cases h
theorem careful_ok (xs : List WorkSheetR) : (careful14 xs).2 = sheetsB xs := by
  unfold careful14
  split
  · next hg => rw [hg]
  · next hg => rw [not_false hg]
theorem bef_trans {a b c : WorkSheetR} (h : bef a b) (h2 : bef b c) : bef a c := by unfold bef at *; omega
theorem sheets_lt {xs : List WorkSheetR} (h : Sheets xs) : ∀ (d i : Nat) (a b : WorkSheetR), xs[i]? = some a → xs[i + d + 1]? = some b → bef a b := by
  intro d
  induction d with
  | zero => intro i a b ha hb; exact h.2.2 i a b (List.getElem?_eq_some_iff.1 hb).1 ha hb
  | succ d ih =>
    intro i a b ha hb
    have hlt := (List.getElem?_eq_some_iff.1 hb).1
    obtain ⟨c, hc⟩ : ∃ c, xs[i + d + 1]? = some c := ⟨_, List.getElem?_eq_getElem (by omega)⟩
    exact bef_trans (ih i a c ha hc) (h.2.2 (i + d + 1) c b hlt hc hb)
theorem sheets_inj {xs : List WorkSheetR} (h : Sheets xs) {i j : Nat} {a b : WorkSheetR} (ha : xs[i]? = some a) (hb : xs[j]? = some b) (e : a.f0 = b.f0) (e2 : a.f1 = b.f1) : a = b := by
  rcases Nat.lt_trichotomy i j with hl | hl | hl
  · have := sheets_lt h (j - i - 1) i a b ha (by rw [show i + (j - i - 1) + 1 = j by omega]; exact hb)
    unfold bef at this
    omega
  · subst hl
    rw [ha] at hb
    exact Option.some.inj hb
  · have := sheets_lt h (i - j - 1) j b a hb (by rw [show j + (i - j - 1) + 1 = i by omega]; exact ha)
    unfold bef at this
    omega
theorem best_in_max : ∀ (xs : List WorkSheetR) (o : Option WorkSheetR) (m : WorkSheetR), xs.foldl stepS o = some m → (∀ a ∈ xs, a.f2 - a.f3 ≤ m.f2 - m.f3) ∧ (∀ b, o = some b → b.f2 - b.f3 ≤ m.f2 - m.f3) := by
  intro xs
  induction xs with
  | nil =>
    intro o m h
    refine ⟨fun a ha => (by cases ha), fun b hb => ?_⟩
    subst hb
    cases h
    exact Int.le_refl _
  | cons x xs ih =>
    intro o m h
    have h2 := ih _ _ h
    cases o with
    | none =>
      refine ⟨fun a ha => ?_, fun b hb => by cases hb⟩
      rcases List.mem_cons.1 ha with rfl | ha
      · exact h2.2 _ rfl
      · exact h2.1 a ha
    | some p =>
      have h3 := h2.2
      unfold stepS at h3
      simp only at h3
      by_cases hp : betterS x p = true
      · rw [if_pos hp] at h3
        have h4 := h3 _ rfl
        have h5 := of_decide_eq_true hp
        refine ⟨fun a ha => ?_, fun b hb => by cases hb; omega⟩
        rcases List.mem_cons.1 ha with rfl | ha
        · exact h4
        · exact h2.1 a ha
      · rw [if_neg hp] at h3
        have h4 := h3 _ rfl
        have h5 : ¬ p.f2 - p.f3 < x.f2 - x.f3 := fun hh => hp (decide_eq_true hh)
        refine ⟨fun a ha => ?_, fun b hb => by cases hb; exact h4⟩
        rcases List.mem_cons.1 ha with rfl | ha
        · omega
        · exact h2.1 a ha
/-- What stands of the best day, if there is one. -/
theorem best_facts {xs : List WorkSheetR} {v d : Int} (h1 : (bestDay14 xs v).1 = d) (h : (bestDay14 xs v).2 = true) : ∃ r : Int, (0 ≤ r ∧ r ≤ 12000) ∧
    (∀ (j : Nat) (a : WorkSheetR), xs[j]? = some a → (0 ≤ a.f2 ∧ a.f2 ≤ 12000) ∧ (0 ≤ a.f3 ∧ a.f3 ≤ a.f2)) ∧ (∀ (j : Nat) (a : WorkSheetR), xs[j]? = some a → a.f0 = v → a.f2 - a.f3 ≤ r) ∧
    (∀ (j : Nat) (a : WorkSheetR), xs[j]? = some a → a.f0 = v → a.f1 = d → a.f2 - a.f3 = r) ∧ (∃ (j : Nat) (a : WorkSheetR), xs[j]? = some a ∧ a.f0 = v ∧ a.f1 = d) := by
  by_cases hg : sheetsB xs = true
  · cases hb : bestS (ofW xs v) with
    | none =>
      rw [bestDay_none hg hb] at h
      cases h
    | some m =>
      rw [bestDay_some hg hb] at h1
      simp only at h1
      have hm := bestS_mem hb
      obtain ⟨hm1, hm2⟩ := List.mem_filter.1 hm
      have hmv : m.f0 = v := of_decide_eq_true hm2
      obtain ⟨i, hi, e⟩ := List.mem_iff_getElem.1 hm1
      have hx : xs[i]? = some m := by rw [List.getElem?_eq_getElem hi, e]
      have hk := (sheet_of (sheets_at hg hx)).2.2
      have hmax := (best_in_max _ _ _ (show (ofW xs v).foldl stepS none = some m from hb)).1
      refine ⟨m.f2 - m.f3, by omega, fun j a ha => ⟨(sheet_of (sheets_at hg ha)).2.2.1, (sheet_of (sheets_at hg ha)).2.2.2.1⟩, fun j a ha hv => hmax a (List.mem_filter.2 ⟨List.mem_of_getElem? ha, decide_eq_true hv⟩), fun j a ha hv hd => ?_, i, m, hx, hmv, h1⟩
      rw [sheets_inj (sheetsB_of hg) ha hx (hv.trans hmv.symm) (hd.trans h1.symm)]
  · rw [bestDay_no hg] at h
    cases h
theorem miss_at : ∀ (xs : List WorkSheetR) (k : Nat) (y : Int), y ∈ missFrom xs k → ∃ (q : Nat) (a : WorkSheetR), y = ((k + q : Nat) : Int) ∧ xs[q]? = some a ∧ missP a = true := by
  intro xs
  induction xs with
  | nil => intro k y h; cases h
  | cons x xs ih =>
    intro k y h
    rw [missFrom] at h
    rcases List.mem_append.1 h with h | h
    · split at h
      · next hp =>
        rw [List.mem_singleton] at h
        exact ⟨0, x, by rw [h]; rfl, rfl, hp⟩
      · cases h
    · obtain ⟨q, a, h1, h2, h3⟩ := ih (k + 1) y h
      exact ⟨q + 1, a, by rw [h1]; congr 1; omega, by simpa using h2, h3⟩
/-- What is told as missed is so. -/
theorem missed_facts {us : List WorkSheetR} {j : Nat} {y : Int} (h : (missed14 us).1[j]? = some y) : ∃ (q : Nat) (a : WorkSheetR), y = (q : Int) ∧ us[q]? = some a ∧ (8000 ≤ a.f2 ∧ a.f2 ≤ 12000) ∧ (0 ≤ a.f3 ∧ a.f3 ≤ a.f2) ∧ a.f2 - a.f3 < 8000 := by
  have hm := List.mem_of_getElem? h
  unfold missed14 at hm
  split at hm
  · next hg =>
    obtain ⟨q, a, h1, h2, h3⟩ := miss_at _ _ _ hm
    have hk := (sheet_of (sheets_at hg h2)).2.2
    unfold missP at h3
    simp only [Bool.and_eq_true, decide_eq_true_eq] at h3
    exact ⟨q, a, by rw [h1, Nat.zero_add], h2, by omega, by omega, by omega⟩
  · cases hm
end Go.Proofs.Ytnpojmaipndpmaa
