/- Plain mathematics: a ring put back and read again. -/
import Derived.Test.YtmaiakaeiokikaaRingMath
namespace Go.Proofs.Ytmaiakaeiokikaa
open Go.RowKit

theorem put_ring_same {m k : Nat} {xs : List Int} (m2 : 2 ≤ m) (m8 : m ≤ 8) (k2 : 2 ≤ k) (k8 : k ≤ 8) (hx : xs.length = m * k) : putRing m k xs (ringL m k xs) = xs := by
  have hl := putRing_len m k xs (ringL m k xs)
  have hrl := ringL_len m k xs
  have hN : 0 < ringN m k := by unfold ringN; omega
  apply List.ext_getElem hl
  intro q h1 h2
  rw [← getD_at h1, ← getD_at h2]
  by_cases hq : q ∈ ringP m k
  · obtain ⟨n, hn, rfl⟩ := (mem_place m2 k2).1 hq
    rw [putRing_at m2 m8 k2 k8 hx hn, hrl, Nat.mod_eq_of_lt hn, ringL_get hn]
  · exact putRing_out m2 k2 hq
theorem ring_put {m k : Nat} {xs cs : List Int} (m2 : 2 ≤ m) (m8 : m ≤ 8) (k2 : 2 ≤ k) (k8 : k ≤ 8) (hx : xs.length = m * k) (hc : cs.length = ringN m k) : ringL m k (putRing m k xs cs) = cs := by
  apply List.ext_getElem (by rw [ringL_len, hc])
  intro n h1 h2
  rw [ringL_len] at h1
  rw [← getD_at (by rw [ringL_len]; exact h1), ← getD_at h2, ringL_get h1, putRing_at m2 m8 k2 k8 hx h1, hc, Nat.mod_eq_of_lt h1]
theorem ring_period {ys : List Int} (h : 1 ≤ ys.length) : 1 ≤ perR ys ∧ perR ys ≤ ys.length ∧ ys.length % perR ys = 0 ∧ ∀ i, perR ys ≤ i → i < ys.length → ys.getD i 0 = ys.getD (i - perR ys) 0 := by
  obtain ⟨h1, h2⟩ := perR_bd h
  obtain ⟨h3, h4⟩ := (perRB_iff h2).1 (perR_ok h)
  refine ⟨h1, h2, h3, fun i hi hl => ?_⟩
  have := h4 (i - perR ys) (by omega)
  rw [Nat.sub_add_cancel hi] at this
  exact this.symm
end Go.Proofs.Ytmaiakaeiokikaa
