/- The library's greatest, least and first of a slice of numbers that reads. Condition: it is not empty where the function asks so. -/
import Derived.Test.YtpnmnkdnlajfiaaMem
import Derived.Test.YtpnmnkdnlajfiaaShelf
namespace Go.Proofs.Ytpnmnkdnlajfiaa
open Go.RowKit

theorem maxI_any (A : Option Addr) (n c B : Nat) (xs : List Int) (w : World) (h : Rd w B A n c xs) (hn : 0 < n) :
    Calls Try.prog 53 #[.slice A n c] w fun e w' => e = .returned (.int .i64 (Lib.maxOf xs)) ∧ w = w' := by
  have hlt := h.len_lt
  obtain ⟨b, off, rfl, hb, hc⟩ := h.cells hn
  obtain rfl := h.len
  refine (Try.slices_Max_int b off xs.length c xs w hn (Nat.le_refl _) hlt hc).mono ?_
  rintro e w' ⟨rfl, rfl⟩
  exact ⟨by rw [List.take_length], rfl⟩
theorem minI_any (A : Option Addr) (n c B : Nat) (xs : List Int) (w : World) (h : Rd w B A n c xs) (hn : 0 < n) :
    Calls Try.prog 52 #[.slice A n c] w fun e w' => e = .returned (.int .i64 (Lib.minOf xs)) ∧ w = w' := by
  have hlt := h.len_lt
  obtain ⟨b, off, rfl, hb, hc⟩ := h.cells hn
  obtain rfl := h.len
  refine (Try.slices_Min_int b off xs.length c xs w hn (Nat.le_refl _) hlt hc).mono ?_
  rintro e w' ⟨rfl, rfl⟩
  exact ⟨by rw [List.take_length], rfl⟩
theorem indexI_any (A : Option Addr) (n c B : Nat) (xs : List Int) (x : Int) (w : World) (h : Rd w B A n c xs) (hn : 0 < n) :
    Calls Try.prog 61 #[.slice A n c, .int .i64 x] w fun e w' => e = .returned (.int .i64 (Lib.idxOf xs x)) ∧ w = w' := by
  have hlt := h.len_lt
  obtain ⟨b, off, rfl, hb, hc⟩ := h.cells hn
  obtain rfl := h.len
  refine (Try.slices_Index_int b off xs.length c xs x w (Nat.le_refl _) hlt hc).mono ?_
  rintro e w' ⟨rfl, rfl⟩
  exact ⟨by rw [List.take_length], rfl⟩
theorem maxOf_prop (l : List Int) (k : Nat) (h0 : 0 < k) (hk : k ≤ l.length) : (∀ i, i < k → l.getD i 0 ≤ Lib.maxOf (l.take k)) ∧ ∃ i, i < k ∧ l.getD i 0 = Lib.maxOf (l.take k) := by
  induction k with
  | zero => omega
  | succ k ih =>
    by_cases hz : k = 0
    · subst hz
      rw [Lib.maxOf_one]
      exact ⟨fun i hi => by obtain rfl : i = 0 := by omega
                            exact Int.le_refl _, 0, by omega, rfl⟩
    · obtain ⟨h1, j, hj, h2⟩ := ih (by omega) (by omega)
      rw [Lib.maxOf_step l k (by omega) (by omega)]
      refine ⟨fun i hi => ?_, ?_⟩
      · by_cases hik : i = k
        · subst hik; omega
        · have := h1 i (by omega); omega
      · by_cases hm : Lib.maxOf (l.take k) ≤ l.getD k 0
        · exact ⟨k, by omega, by omega⟩
        · exact ⟨j, by omega, by omega⟩
/-- The first place of the greatest number. -/
theorem firstMax {l : List Int} {b : Nat} (hb : b < l.length) (h1 : ∀ i, i < l.length → l.getD i 0 ≤ l.getD b 0) (h2 : ∀ i, i < b → l.getD i 0 < l.getD b 0) : Lib.idxOf l (Lib.maxOf l) = b := by
  have hp := maxOf_prop l l.length (by omega) (Nat.le_refl _)
  rw [List.take_length] at hp
  obtain ⟨g1, j, hj, g2⟩ := hp
  have e : Lib.maxOf l = l.getD b 0 := by have := g1 b hb; have := h1 j hj; omega
  have := Lib.idxOf_hit l l.length b (Lib.maxOf l) hb (Nat.le_refl _) e.symm (fun i hi => by have := h2 i hi; omega)
  rwa [List.take_length] at this
theorem minOf_prop (l : List Int) (k : Nat) (h0 : 0 < k) (hk : k ≤ l.length) : (∀ i, i < k → Lib.minOf (l.take k) ≤ l.getD i 0) ∧ ∃ i, i < k ∧ l.getD i 0 = Lib.minOf (l.take k) := by
  induction k with
  | zero => omega
  | succ k ih =>
    by_cases hz : k = 0
    · subst hz
      rw [Lib.minOf_one]
      exact ⟨fun i hi => by obtain rfl : i = 0 := by omega
                            exact Int.le_refl _, 0, by omega, rfl⟩
    · obtain ⟨h1, j, hj, h2⟩ := ih (by omega) (by omega)
      rw [Lib.minOf_step l k (by omega) (by omega)]
      refine ⟨fun i hi => ?_, ?_⟩
      · by_cases hik : i = k
        · subst hik; omega
        · have := h1 i (by omega); omega
      · by_cases hm : l.getD k 0 ≤ Lib.minOf (l.take k)
        · exact ⟨k, by omega, by omega⟩
        · exact ⟨j, by omega, by omega⟩
theorem minOf_all {l : List Int} (hl : 0 < l.length) : decide (0 ≤ Lib.minOf l) = l.all (fun x => decide (0 ≤ x)) := by
  have hp := minOf_prop l l.length hl (Nat.le_refl _)
  rw [List.take_length] at hp
  obtain ⟨g1, j, hj, g2⟩ := hp
  rw [Bool.eq_iff_iff, decide_eq_true_iff, List.all_eq_true]
  refine ⟨fun h x hx => ?_, fun h => ?_⟩
  · obtain ⟨i, hi, rfl⟩ := List.getElem_of_mem hx
    have := g1 i hi
    rw [getD_at hi] at this
    exact decide_eq_true (by omega)
  · rw [← g2, getD_at hj]
    exact of_decide_eq_true (h _ (List.getElem_mem hj))
end Go.Proofs.Ytpnmnkdnlajfiaa
