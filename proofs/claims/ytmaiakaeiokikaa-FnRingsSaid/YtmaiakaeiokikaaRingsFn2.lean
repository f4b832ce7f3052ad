/- What FnRings says, in plain mathematics. -/
import Derived.Test.YtmaiakaeiokikaaRingsFn
import Derived.Test.YtmaiakaeiokikaaRing8
namespace Go.Proofs.Ytmaiakaeiokikaa
open Go.RowKit

theorem all_color {l : List Int} (h : ∀ q, q < l.length → 0 ≤ l.getD q 0 ∧ l.getD q 0 < 6) : l.all isColorB = true := by
  rw [List.all_eq_true]
  intro x hx
  obtain ⟨q, hq, rfl⟩ := List.getElem_of_mem hx
  have := h q hq
  rw [getD_at hq] at this
  exact decide_eq_true this
theorem color_getD {l : List Int} (h : ∀ x ∈ l, 0 ≤ x ∧ x < 6) {q : Nat} (hq : q < l.length) : 0 ≤ l.getD q 0 ∧ l.getD q 0 < 6 := by
  rw [getD_at hq]
  exact h _ (List.getElem_mem hq)
theorem put_good {m k : Nat} {xs cs : List Int} (h : hasRingB m k xs = true) (m2 : 2 ≤ m) (m8 : m ≤ 8) (k2 : 2 ≤ k) (k8 : k ≤ 8) (hx : xs.length = m * k) (hc : cs.all isColorB = true) (hl : cs.length = ringN m k) : hasRingB m k (putRing m k xs cs) = true := by
  simp only [hasRingB, goodB, Bool.and_eq_true] at h ⊢
  obtain ⟨⟨⟨⟨⟨h1, h2⟩, h3⟩, h4⟩, h5⟩, h6⟩ := h
  refine ⟨⟨⟨⟨⟨h1, h2⟩, ?_⟩, all_color fun q hq => ?_⟩, h5⟩, h6⟩
  · rw [putRing_len]; exact h3
  · rw [putRing_len] at hq
    have hxc : ∀ x ∈ xs, 0 ≤ x ∧ x < 6 := fun x hx => of_decide_eq_true (List.all_eq_true.1 h4 x hx)
    have hcc : ∀ x ∈ cs, 0 ≤ x ∧ x < 6 := fun x hx => of_decide_eq_true (List.all_eq_true.1 hc x hx)
    by_cases hqr : q ∈ ringP m k
    · obtain ⟨n, hn, rfl⟩ := (mem_place m2 k2).1 hqr
      rw [putRing_at m2 m8 k2 k8 hx hn, hl, Nat.mod_eq_of_lt hn]
      exact color_getD hcc (by omega)
    · rw [putRing_out m2 k2 hqr]
      exact color_getD hxc hq
theorem ring_color {m k : Nat} {xs : List Int} (m2 : 2 ≤ m) (m8 : m ≤ 8) (k2 : 2 ≤ k) (k8 : k ≤ 8) (hx : xs.length = m * k) (hc : ∀ x ∈ xs, 0 ≤ x ∧ x < 6) : (ringL m k xs).all isColorB = true :=
  all_color fun q hq => by
    rw [ringL_len] at hq
    rw [ringL_get hq]
    exact color_getD hc (by rw [hx]; exact placeP_lt m2 m8 k2 k8 hq)
theorem ring_len_v {m k : Nat} (m2 : 2 ≤ m) (m8 : m ≤ 8) (k2 : 2 ≤ k) (k8 : k ≤ 8) : (ringSideB m && ringSideB k) = true ∧ ringLenV m k = (ringN m k : Nat) := by
  have h1 : ringSideB (m : Int) = true := decide_eq_true (by omega)
  have h2 : ringSideB (k : Int) = true := decide_eq_true (by omega)
  refine ⟨by rw [h1, h2]; rfl, ?_⟩
  unfold ringLenV orZero ringN
  rw [h1, h2]
  simp
  omega
theorem rings_facts {W H : Int} {xs : List Int} (h : hasRingB W H xs = true) :
    putOk8 W H xs (ringX W H xs) = true ∧ putX8 W H xs (ringX W H xs) = xs ∧ (ringSideB W && ringSideB H) = true ∧ ringLenV W H = ((ringX W H xs).length : Nat) ∧
    ∃ p : Nat, perRV W H xs = (p : Int) ∧ 1 ≤ p ∧ p ≤ (ringX W H xs).length ∧ (ringX W H xs).length % p = 0 ∧ ∀ i, p ≤ i → i < (ringX W H xs).length → (ringX W H xs).getD i 0 = (ringX W H xs).getD (i - p) 0 := by
  obtain ⟨m, k, rfl, rfl, m2, m8, k2, k8, hx, hg, h64, hl1⟩ := hasRing_nat h
  have hxl : xs.length = m * k := hx
  have e : ringX m k xs = ringL m k xs := by rw [show ringX m k xs = ringL (m : Int).toNat (k : Int).toNat xs from if_pos h]; rfl
  have hrl := ringL_len m k xs
  have hN : 1 ≤ ringN m k := by unfold ringN; omega
  have hcol := (good_bd hg).2.2
  have hok : putOk8 m k xs (ringL m k xs) = true := by
    simp only [putOk8, Bool.and_eq_true, decide_eq_true_eq]
    exact ⟨h, ring_color m2 m8 k2 k8 hxl hcol, hrl⟩
  obtain ⟨r1, r2⟩ := ring_len_v m2 m8 k2 k8
  obtain ⟨p1, p2, p3, p4⟩ := ring_period (ys := ringL m k xs) (by omega)
  rw [e]
  refine ⟨hok, ?_, r1, by rw [r2, hrl], perR (ringL m k xs), ?_, p1, p2, p3, p4⟩
  · rw [show putX8 m k xs (ringL m k xs) = putRing (m : Int).toNat (k : Int).toNat xs (ringL m k xs) from if_pos hok]
    exact put_ring_same m2 m8 k2 k8 hxl
  · rw [show perRV m k xs = (perR (ringL (m : Int).toNat (k : Int).toNat xs) : Int) from if_pos h]; rfl
theorem put_facts {W H : Int} {xs cs : List Int} (h : putOk8 W H xs cs = true) :
    orZero (putOk8 W H xs cs) W = W ∧ orZero (putOk8 W H xs cs) H = H ∧ hasRingB W H (putX8 W H xs cs) = true ∧ ringX W H (putX8 W H xs cs) = cs := by
  have hx8 : putX8 W H xs cs = putRing W.toNat H.toNat xs cs := if_pos h
  obtain ⟨h1, h2, h3⟩ := putOk8_yes h
  obtain ⟨m, k, rfl, rfl, m2, m8, k2, k8, hx, hg, h64, hl1⟩ := hasRing_nat h1
  have hxl : xs.length = m * k := hx
  have h3' : cs.length = ringN m k := h3
  have e : putX8 m k xs cs = putRing m k xs cs := hx8
  have hgood := put_good h1 m2 m8 k2 k8 hxl h2 h3'
  rw [h, e]
  refine ⟨rfl, rfl, hgood, ?_⟩
  rw [show ringX m k (putRing m k xs cs) = ringL (m : Int).toNat (k : Int).toNat (putRing m k xs cs) from if_pos hgood]
  exact ring_put m2 m8 k2 k8 hxl h3'
end Go.Proofs.Ytmaiakaeiokikaa
