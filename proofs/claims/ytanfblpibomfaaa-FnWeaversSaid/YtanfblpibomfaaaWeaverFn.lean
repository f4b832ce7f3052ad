/- What chapter 11's laws over a code say, as data. No condition. -/
import Derived.Test.YtanfblpibomfaaaDays11
import Derived.Test.YtanfblpibomfaaaUsed11
import Derived.Test.YtanfblpibomfaaaWords11
namespace Go.Proofs.Ytanfblpibomfaaa
open Go.RowKit

theorem mul_bd {a b A B : Int} (h0 : 0 ≤ a) (h1 : a ≤ A) (h2 : 0 ≤ b) (h3 : b ≤ B) : 0 ≤ a * b ∧ a * b ≤ A * B :=
  ⟨Int.mul_nonneg h0 h2, Int.mul_le_mul h1 h3 h2 (Int.le_trans h0 h1)⟩
/-- After the told days the knots are tied, and a day before they are not. -/
theorem days_enough {xs : List WeaverR} {l k d : Int} (h : days11 xs l k = (d, true)) : ∃ N, kn11 xs l = (N, true) ∧ (0 ≤ N ∧ N ≤ 96000) ∧ (0 ≤ d ∧ d ≤ 20000000) ∧ (0 ≤ k ∧ k ≤ 10000000) ∧ k ≤ N * d ∧ (0 < d → N * (d - 1) < k) := by
  unfold days11 at h
  split at h
  · next hh =>
    obtain ⟨hg, hl, hk⟩ := hh
    obtain ⟨k0, k1⟩ := inB_yes hk
    obtain ⟨n0, n1⟩ := knots11_bd hg l
    refine ⟨knots11 xs l, kn11_good hg hl, ⟨n0, n1⟩, ?_⟩
    generalize knots11 xs l = N at *
    split at h
    · next h0 =>
      simp only [Prod.mk.injEq, decide_eq_true_eq] at h
      obtain ⟨rfl, rfl⟩ := h
      subst h0
      exact ⟨⟨by omega, by omega⟩, ⟨by omega, by omega⟩, by omega, fun h => by omega⟩
    · next h0 =>
      simp only [Prod.mk.injEq, and_true] at h
      subst h
      have hN : 0 < N := by omega
      have h1 := Int.mul_ediv_add_emod (k + (N - 1)) N
      have h2 := Int.emod_nonneg (k + (N - 1)) h0
      have h3 := Int.emod_lt_of_pos (k + (N - 1)) hN
      have hq0 : 0 ≤ (k + (N - 1)) / N := Int.ediv_nonneg (by omega) (by omega)
      have hq1 : (k + (N - 1)) / N ≤ k + (N - 1) := Int.ediv_le_self _ (by omega)
      refine ⟨⟨hq0, by omega⟩, ⟨k0, k1⟩, by omega, fun _ => ?_⟩
      rw [Int.mul_sub, Int.mul_one]
      omega
  · simp at h
/-- A list that comes out of a change is valid. -/
theorem seat_valid {xs : List WeaverR} {id loom : Int} {zs : List WeaverR} (h : seat11 xs id loom = (zs, true)) : weaversB zs = true := by
  unfold seat11 at h
  split at h
  · unfold put11 at h
    split at h
    · next hg =>
      simp only [Prod.mk.injEq, and_true] at h
      rw [← h]; exact hg
    · simp at h
  · simp at h
/-- The looms have all who sit. -/
theorem sumI_seats (xs : List WeaverR) : ∀ (U : List Int), U.Pairwise (· < ·) → (∀ u ∈ U, u ≠ 0) → sumI (seatL xs U) = (((loomZ xs).filter fun z => decide (z ∈ U)).length : Nat)
  | [], _, _ => by
    have e : (loomZ xs).filter (fun z => decide (z ∈ ([] : List Int))) = [] := List.filter_eq_nil_iff.2 fun z _ => by simp
    rw [e]
    rfl
  | u :: U, hp, h0 => by
    obtain ⟨hu, hp'⟩ := List.pairwise_cons.1 hp
    have ih := sumI_seats xs U hp' fun x hx => h0 x (List.mem_cons_of_mem _ hx)
    have hnm : u ∉ U := fun hm => by have := hu u hm; omega
    have hu0 := h0 u (List.mem_cons_self ..)
    have hc : seatsN xs u = ((loomZ xs).filter fun z => decide (z = u)).length := by
      unfold seatsN atL loomZ
      rw [List.filter_map, List.length_map, List.filter_filter]
      congr 1
      apply List.filter_congr
      intro a _
      simp only [Function.comp]
      by_cases e : a.f4 = u
      · have : ¬ a.f4 = 0 := by rw [e]; exact hu0
        simp [e, hu0]
      · simp [e]
    have hs : ∀ Z : List Int, (Z.filter fun z => decide (z ∈ u :: U)).length = (Z.filter fun z => decide (z = u)).length + (Z.filter fun z => decide (z ∈ U)).length := by
      intro Z
      induction Z with
      | nil => rfl
      | cons z Z ihz =>
        by_cases e : z = u
        · subst e
          have h1 : decide (z ∈ U) = false := decide_eq_false hnm
          rw [List.filter_cons_of_pos (by simp), List.filter_cons_of_pos (by simp), List.filter_cons_of_neg (by simp [hnm]), List.length_cons, List.length_cons, ihz]
          omega
        · by_cases e2 : z ∈ U
          · rw [List.filter_cons_of_pos (by simp [e2]), List.filter_cons_of_neg (by simp [e]), List.filter_cons_of_pos (by simp [e2]), List.length_cons, List.length_cons, ihz]
            omega
          · rw [List.filter_cons_of_neg (by simp [e, e2]), List.filter_cons_of_neg (by simp [e]), List.filter_cons_of_neg (by simp [e2]), ihz]
    show (seatsN xs u : Int) + sumI (seatL xs U) = _
    rw [ih, hs, hc]
    omega
theorem looms_seats (xs : List WeaverR) : sumI (seatL xs (looms11 xs)) = ((loomZ xs).length : Nat) := by
  rw [sumI_seats xs (looms11 xs) (setI_asc _) (fun u hu => (loomZ_mem.1 ((setI_mem _ _).1 hu)).1)]
  congr 2
  exact List.filter_eq_self.2 fun z hz => decide_eq_true ((setI_mem _ _).2 hz)
theorem loomZ_count {xs : List WeaverR} {k : Nat} {a : WeaverR} (ha : xs[k]? = some a) : ((loomZ (xs.take (k + 1))).length : Nat) = (loomZ (xs.take k)).length + (if a.f4 = 0 then 0 else 1) := by
  obtain ⟨hk, rfl⟩ := List.getElem?_eq_some_iff.1 ha
  rw [List.take_succ_eq_append_getElem hk, loomZ, List.filter_append, List.map_append, List.length_append]
  congr 1
  by_cases h : xs[k].f4 = 0
  · simp [h]
  · simp [h]
theorem loom_has {xs : List WeaverR} {k : Nat} {a : WeaverR} (ha : xs[k]? = some a) (h : a.f4 ≠ 0) : a.f4 ∈ looms11 xs := by
  refine (setI_mem _ _).2 ?_
  unfold loomZ
  exact List.mem_map.2 ⟨a, List.mem_filter.2 ⟨List.mem_of_getElem? ha, by simp [h]⟩, rfl⟩
theorem seatL_bd (xs : List WeaverR) (h : xs.length ≤ 1000) (U : List Int) : ∀ x ∈ seatL xs U, 0 ≤ x ∧ x ≤ 1000000 := by
  intro x hx
  obtain ⟨u, _, rfl⟩ := List.mem_map.1 hx
  have := seatsN_le xs u
  omega
end Go.Proofs.Ytanfblpibomfaaa
