/- Several texts of this proof in one: RingsFn, RingsFn2, BordersFn. No condition. -/
import Derived.Test.YtjfdcmdgpeeabaaRingMath
import Derived.Test.YtjfdcmdgpeeabaaRing8
import Derived.Test.YtjfdcmdgpeeabaaRing6
import Derived.Test.YtjfdcmdgpeeabaaRing7
import Derived.Test.YtjfdcmdgpeeabaaRing9
namespace Go.Proofs.Ytjfdcmdgpeeabaa
open Go.RowKit

theorem put_ring_same {m k : Nat} {xs : List Int} (m2 : 2 ≤ m) (m8 : m ≤ 8) (k2 : 2 ≤ k) (k8 : k ≤ 8) (hx : xs.length = m * k) : putRing m k xs (ringL m k xs) = xs := by
  have hl := putRing_len m k xs (ringL m k xs)
  have hrl := ringL_len m k xs
  have hN : 0 < ringN m k := by unfold ringN; omega
  apply List.ext_getElem hl
  intro q h1 h2
  rw [← getD_at h1, ← getD_at h2]
  by_cases hq : q ∈ ringP m k
  · obtain ⟨n, hn, rfl⟩ := (mem_place m2 k2).1 hq
    rw [putRing_at m2 m8 k2 k8 hx hn, hrl, Nat.mod_eq_of_lt hn, ringL_get hn]
  · exact putRing_out m2 k2 hq
theorem ring_put {m k : Nat} {xs cs : List Int} (m2 : 2 ≤ m) (m8 : m ≤ 8) (k2 : 2 ≤ k) (k8 : k ≤ 8) (hx : xs.length = m * k) (hc : cs.length = ringN m k) : ringL m k (putRing m k xs cs) = cs := by
  apply List.ext_getElem (by rw [ringL_len, hc])
  intro n h1 h2
  rw [ringL_len] at h1
  rw [← getD_at (by rw [ringL_len]; exact h1), ← getD_at h2, ringL_get h1, putRing_at m2 m8 k2 k8 hx h1, hc, Nat.mod_eq_of_lt h1]
theorem ring_period {ys : List Int} (h : 1 ≤ ys.length) : 1 ≤ perR ys ∧ perR ys ≤ ys.length ∧ ys.length % perR ys = 0 ∧ ∀ i, perR ys ≤ i → i < ys.length → ys.getD i 0 = ys.getD (i - perR ys) 0 := by
  obtain ⟨h1, h2⟩ := perR_bd h
  obtain ⟨h3, h4⟩ := (perRB_iff h2).1 (perR_ok h)
  refine ⟨h1, h2, h3, fun i hi hl => ?_⟩
  have := h4 (i - perR ys) (by omega)
  rw [Nat.sub_add_cancel hi] at this
  exact this.symm
end Go.Proofs.Ytjfdcmdgpeeabaa
namespace Go.Proofs.Ytjfdcmdgpeeabaa
open Go.RowKit

theorem all_color {l : List Int} (h : ∀ q, q < l.length → 0 ≤ l.getD q 0 ∧ l.getD q 0 < 6) : l.all isColorB = true := by
  rw [List.all_eq_true]
  intro x hx
  obtain ⟨q, hq, rfl⟩ := List.getElem_of_mem hx
  have := h q hq
  rw [getD_at hq] at this
  exact decide_eq_true this
theorem color_getD {l : List Int} (h : ∀ x ∈ l, 0 ≤ x ∧ x < 6) {q : Nat} (hq : q < l.length) : 0 ≤ l.getD q 0 ∧ l.getD q 0 < 6 := by
  rw [getD_at hq]
  exact h _ (List.getElem_mem hq)
theorem put_good {m k : Nat} {xs cs : List Int} (h : hasRingB m k xs = true) (m2 : 2 ≤ m) (m8 : m ≤ 8) (k2 : 2 ≤ k) (k8 : k ≤ 8) (hx : xs.length = m * k) (hc : cs.all isColorB = true) (hl : cs.length = ringN m k) : hasRingB m k (putRing m k xs cs) = true := by
  simp only [hasRingB, goodB, Bool.and_eq_true] at h ⊢
  obtain ⟨⟨⟨⟨⟨h1, h2⟩, h3⟩, h4⟩, h5⟩, h6⟩ := h
  refine ⟨⟨⟨⟨⟨h1, h2⟩, ?_⟩, all_color fun q hq => ?_⟩, h5⟩, h6⟩
  · rw [putRing_len]; exact h3
  · rw [putRing_len] at hq
    have hxc : ∀ x ∈ xs, 0 ≤ x ∧ x < 6 := fun x hx => of_decide_eq_true (List.all_eq_true.1 h4 x hx)
    have hcc : ∀ x ∈ cs, 0 ≤ x ∧ x < 6 := fun x hx => of_decide_eq_true (List.all_eq_true.1 hc x hx)
    by_cases hqr : q ∈ ringP m k
    · obtain ⟨n, hn, rfl⟩ := (mem_place m2 k2).1 hqr
      rw [putRing_at m2 m8 k2 k8 hx hn, hl, Nat.mod_eq_of_lt hn]
      exact color_getD hcc (by omega)
    · rw [putRing_out m2 k2 hqr]
      exact color_getD hxc hq
theorem ring_color {m k : Nat} {xs : List Int} (m2 : 2 ≤ m) (m8 : m ≤ 8) (k2 : 2 ≤ k) (k8 : k ≤ 8) (hx : xs.length = m * k) (hc : ∀ x ∈ xs, 0 ≤ x ∧ x < 6) : (ringL m k xs).all isColorB = true :=
  all_color fun q hq => by
    rw [ringL_len] at hq
    rw [ringL_get hq]
    exact color_getD hc (by rw [hx]; exact placeP_lt m2 m8 k2 k8 hq)
theorem ring_len_v {m k : Nat} (m2 : 2 ≤ m) (m8 : m ≤ 8) (k2 : 2 ≤ k) (k8 : k ≤ 8) : (ringSideB m && ringSideB k) = true ∧ ringLenV m k = (ringN m k : Nat) := by
  have h1 : ringSideB (m : Int) = true := decide_eq_true (by omega)
  have h2 : ringSideB (k : Int) = true := decide_eq_true (by omega)
  refine ⟨by rw [h1, h2]; rfl, ?_⟩
  unfold ringLenV orZero ringN
  rw [h1, h2]
  simp
  omega
theorem rings_facts {W H : Int} {xs : List Int} (h : hasRingB W H xs = true) :
    putOk8 W H xs (ringX W H xs) = true ∧ putX8 W H xs (ringX W H xs) = xs ∧ (ringSideB W && ringSideB H) = true ∧ ringLenV W H = ((ringX W H xs).length : Nat) ∧
    ∃ p : Nat, perRV W H xs = (p : Int) ∧ 1 ≤ p ∧ p ≤ (ringX W H xs).length ∧ (ringX W H xs).length % p = 0 ∧ ∀ i, p ≤ i → i < (ringX W H xs).length → (ringX W H xs).getD i 0 = (ringX W H xs).getD (i - p) 0 := by
  obtain ⟨m, k, rfl, rfl, m2, m8, k2, k8, hx, hg, h64, hl1⟩ := hasRing_nat h
  have hxl : xs.length = m * k := hx
  have e : ringX m k xs = ringL m k xs := by rw [show ringX m k xs = ringL (m : Int).toNat (k : Int).toNat xs from if_pos h]; rfl
  have hrl := ringL_len m k xs
  have hN : 1 ≤ ringN m k := by unfold ringN; omega
  have hcol := (good_bd hg).2.2
  have hok : putOk8 m k xs (ringL m k xs) = true := by
    simp only [putOk8, Bool.and_eq_true, decide_eq_true_eq]
    exact ⟨h, ring_color m2 m8 k2 k8 hxl hcol, hrl⟩
  obtain ⟨r1, r2⟩ := ring_len_v m2 m8 k2 k8
  obtain ⟨p1, p2, p3, p4⟩ := ring_period (ys := ringL m k xs) (by omega)
  rw [e]
  refine ⟨hok, ?_, r1, by rw [r2, hrl], perR (ringL m k xs), ?_, p1, p2, p3, p4⟩
  · rw [show putX8 m k xs (ringL m k xs) = putRing (m : Int).toNat (k : Int).toNat xs (ringL m k xs) from if_pos hok]
    exact put_ring_same m2 m8 k2 k8 hxl
  · rw [show perRV m k xs = (perR (ringL (m : Int).toNat (k : Int).toNat xs) : Int) from if_pos h]; rfl
theorem put_facts {W H : Int} {xs cs : List Int} (h : putOk8 W H xs cs = true) :
    orZero (putOk8 W H xs cs) W = W ∧ orZero (putOk8 W H xs cs) H = H ∧ hasRingB W H (putX8 W H xs cs) = true ∧ ringX W H (putX8 W H xs cs) = cs := by
  have hx8 : putX8 W H xs cs = putRing W.toNat H.toNat xs cs := if_pos h
  obtain ⟨h1, h2, h3⟩ := putOk8_yes h
  obtain ⟨m, k, rfl, rfl, m2, m8, k2, k8, hx, hg, h64, hl1⟩ := hasRing_nat h1
  have hxl : xs.length = m * k := hx
  have h3' : cs.length = ringN m k := h3
  have e : putX8 m k xs cs = putRing m k xs cs := hx8
  have hgood := put_good h1 m2 m8 k2 k8 hxl h2 h3'
  rw [h, e]
  refine ⟨rfl, rfl, hgood, ?_⟩
  rw [show ringX m k (putRing m k xs cs) = ringL (m : Int).toNat (k : Int).toNat (putRing m k xs cs) from if_pos hgood]
  exact ring_put m2 m8 k2 k8 hxl h3'
end Go.Proofs.Ytjfdcmdgpeeabaa
namespace Go.Proofs.Ytjfdcmdgpeeabaa
open Go.RowKit

theorem place0_tab : inSides (fun m k => placeP m k 0 == 0) = true := by kernel_rfl
theorem place0 {m k : Nat} (m2 : 2 ≤ m) (m8 : m ≤ 8) (k2 : 2 ≤ k) (k8 : k ≤ 8) : placeP m k 0 = 0 := by simpa using inSides_at place0_tab m2 m8 k2 k8
theorem add_in {m k i j : Nat} {xs ps : List Int} (m8 : m + 2 ≤ 8) (k8 : k + 2 ≤ 8) (hi : i < k) (hj : j < m) : (addL m k xs ps).getD ((i + 1) * (m + 2) + (j + 1)) 0 = elt m xs i j := by
  have hn : (i + 1) * (m + 2) + (j + 1) ∉ ringP (m + 2) (k + 2) := fun hh =>
    (inner_iff (by omega) m8 (by omega) k8 (show i + 1 < k + 2 by omega) (show j + 1 < m + 2 by omega)).1 hh ⟨by omega, by omega, by omega, by omega⟩
  rw [addL, putRing_out (by omega) (by omega) hn, midL_in hi hj]
theorem add_at {m k n : Nat} {xs ps : List Int} (m8 : m + 2 ≤ 8) (k8 : k + 2 ≤ 8) (hn : n < ringN (m + 2) (k + 2)) : (addL m k xs ps).getD (placeP (m + 2) (k + 2) n) 0 = ps.getD (n % ps.length) 0 :=
  putRing_at (by omega) m8 (by omega) k8 (midL_len m k xs 0) hn
theorem elt_getD {m k i j : Nat} {xs : List Int} (hx : xs.length = m * k) (hi : i < k) (hj : j < m) : i * m + j < xs.length := by
  rw [hx]
  calc i * m + j < i * m + m := by omega
    _ = (i + 1) * m := by rw [Nat.succ_mul]
    _ ≤ k * m := Nat.mul_le_mul_right _ (by omega)
    _ = m * k := Nat.mul_comm _ _
theorem add_ring {m k : Nat} {xs ps : List Int} (m8 : m + 2 ≤ 8) (k8 : k + 2 ≤ 8) (hx : xs.length = m * k) (hc : ∀ x ∈ xs, 0 ≤ x ∧ x < 6) (hp : ∀ x ∈ ps, 0 ≤ x ∧ x < 6) (h1 : 1 ≤ ps.length) :
    hasRingB ((m + 2 : Nat) : Int) ((k + 2 : Nat) : Int) (addL m k xs ps) = true := by
  have hl := addL_len m k xs ps
  have hcol : (addL m k xs ps).all isColorB = true := all_color fun q hq => by
    rw [hl] at hq
    by_cases hqr : q ∈ ringP (m + 2) (k + 2)
    · obtain ⟨n, hn, rfl⟩ := (mem_place (by omega) (by omega)).1 hqr
      rw [add_at m8 k8 hn]
      exact color_getD hp (Nat.mod_lt _ (by omega))
    · have hr : q / (m + 2) < k + 2 := Nat.div_lt_of_lt_mul hq
      have hcm : q % (m + 2) < m + 2 := Nat.mod_lt _ (by omega)
      have e : q / (m + 2) * (m + 2) + q % (m + 2) = q := by rw [Nat.mul_comm]; exact Nat.div_add_mod q (m + 2)
      have hin2 : 1 ≤ q / (m + 2) ∧ q / (m + 2) ≤ k + 2 - 2 ∧ 1 ≤ q % (m + 2) ∧ q % (m + 2) ≤ m + 2 - 2 := Classical.byContradiction fun hh => hqr (by
        have := (inner_iff (m := m + 2) (k := k + 2) (by omega) m8 (by omega) k8 hr hcm).2 hh
        rwa [e] at this)
      obtain ⟨a1, a2, a3, a4⟩ := hin2
      have := add_in (m := m) (k := k) (i := q / (m + 2) - 1) (j := q % (m + 2) - 1) (xs := xs) (ps := ps) m8 k8 (by omega) (by omega)
      rw [show q / (m + 2) - 1 + 1 = q / (m + 2) by omega, show q % (m + 2) - 1 + 1 = q % (m + 2) by omega, e] at this
      rw [this]
      exact color_getD hc (elt_getD hx (by omega) (by omega))
  have s1 : isSideB ((m + 2 : Nat) : Int) = true := decide_eq_true (by omega)
  have s2 : isSideB ((k + 2 : Nat) : Int) = true := decide_eq_true (by omega)
  have t1 : ringSideB ((m + 2 : Nat) : Int) = true := decide_eq_true (by omega)
  have t2 : ringSideB ((k + 2 : Nat) : Int) = true := decide_eq_true (by omega)
  have hL : (((addL m k xs ps).length : Nat) : Int) = ((m + 2 : Nat) : Int) * ((k + 2 : Nat) : Int) := by rw [hl, Int.natCast_mul]
  simp only [hasRingB, goodB, Bool.and_eq_true, decide_eq_true_eq]
  exact ⟨⟨⟨⟨⟨s1, s2⟩, hL⟩, hcol⟩, t1⟩, t2⟩
theorem add_strip {m k : Nat} {xs ps : List Int} (m8 : m + 2 ≤ 8) (k8 : k + 2 ≤ 8) (hx : xs.length = m * k) : partL (m + 2) (addL m k xs ps) 1 1 k m = xs := by
  apply List.ext_getElem (by rw [partL_len, hx, Nat.mul_comm])
  intro q h1 h2
  rw [partL_len] at h1
  have hm0 : 0 < m := by
    rcases Nat.eq_zero_or_pos m with h0 | h0
    · subst h0; omega
    · exact h0
  have hi : q / m < k := Nat.div_lt_of_lt_mul (by rw [Nat.mul_comm]; exact h1)
  have hj : q % m < m := Nat.mod_lt _ hm0
  have := add_in (xs := xs) (ps := ps) m8 k8 hi hj
  simp only [partL, List.getElem_map, List.getElem_range]
  show (addL m k xs ps).getD ((1 + q / m) * (m + 2) + (1 + q % m)) 0 = xs[q]
  rw [Nat.add_comm 1 (q / m), Nat.add_comm 1 (q % m), this]
  show xs.getD (q / m * m + q % m) 0 = xs[q]
  rw [show q / m * m + q % m = q by rw [Nat.mul_comm]; exact Nat.div_add_mod q m, getD_at h2]
theorem per_le {ys : List Int} {p : Nat} (p1 : 1 ≤ p) (h : perRB ys p = true) : perR ys ≤ p := by
  rcases Nat.lt_or_ge p (perR ys) with hlt | hge
  · have := firstP_ahead (ys.length - 1) 1 p p1 hlt
    rw [h] at this
    cases this
  · exact hge
theorem borders_facts {W H : Int} {xs ps : List Int} (h : addOk W H xs ps = true) :
    stripOk (W + 2) (H + 2) (addX W H xs ps) = true ∧ stripX (W + 2) (H + 2) (addX W H xs ps) = xs ∧ meetOk (W + 2) (H + 2) (addX W H xs ps) ps = true ∧ meetV (W + 2) (H + 2) (addX W H xs ps) ps = true ∧ hasRingB (W + 2) (H + 2) (addX W H xs ps) = true ∧ 1 ≤ ps.length ∧ ps.length ≤ 8 ∧
    (∃ p : Nat, perRV (W + 2) (H + 2) (addX W H xs ps) = (p : Int) ∧ 1 ≤ p ∧ p ≤ ps.length) ∧ (cornersX (W + 2) (H + 2) (addX W H xs ps)).length = 4 ∧ (cornersX (W + 2) (H + 2) (addX W H xs ps)).getD 0 0 = ps.getD 0 0 := by
  have h' := h
  simp only [addOk, Bool.and_eq_true, decide_eq_true_eq] at h'
  obtain ⟨⟨⟨hg, hp⟩, hs⟩, hd⟩ := h'
  obtain ⟨m, k, rfl, rfl, m1, m8, k1, k8, hx, h64, hl1, hc⟩ := good_nat hg
  have hxl : xs.length = m * k := hx
  obtain ⟨p1, p8, hpc⟩ := patB_yes hp
  have hps : ∀ x ∈ ps, 0 ≤ x ∧ x < 6 := fun x hx => of_decide_eq_true (List.all_eq_true.1 hpc x hx)
  simp only [addSides, isSideB, Bool.and_eq_true, decide_eq_true_eq] at hs
  have m6 : m + 2 ≤ 8 := by omega
  have k6 : k + 2 ≤ 8 := by omega
  have hd' : ringN (m + 2) (k + 2) % ps.length = 0 := hd
  have hN : 1 ≤ ringN (m + 2) (k + 2) := by unfold ringN; omega
  have hring := add_ring (xs := xs) (ps := ps) m6 k6 hxl hc hps p1
  have eX : addX m k xs ps = addL m k xs ps := if_pos h
  have eW : (m : Int) + 2 = ((m + 2 : Nat) : Int) := by omega
  have eH : (k : Int) + 2 = ((k + 2 : Nat) : Int) := by omega
  rw [eX, eW, eH]
  have hgood : goodB ((m + 2 : Nat) : Int) ((k + 2 : Nat) : Int) (addL m k xs ps) = true := by
    simp only [hasRingB, Bool.and_eq_true] at hring
    exact hring.1.1
  have hso : stripOk ((m + 2 : Nat) : Int) ((k + 2 : Nat) : Int) (addL m k xs ps) = true := by
    simp only [stripOk, hgood, Bool.true_and, decide_eq_true_eq]
    omega
  have hmo : meetOk ((m + 2 : Nat) : Int) ((k + 2 : Nat) : Int) (addL m k xs ps) ps = true := by simp only [meetOk, hring, hp, Bool.and_self]
  have hrl := ringL_len (m + 2) (k + 2) (addL m k xs ps)
  have hle : ps.length ≤ ringN (m + 2) (k + 2) := Nat.le_of_dvd (by omega) (Nat.dvd_of_mod_eq_zero hd')
  have hper : perRB (ringL (m + 2) (k + 2) (addL m k xs ps)) ps.length = true := (perRB_iff (by omega)).2 ⟨by rw [hrl]; exact hd', fun i hi => by
    rw [hrl] at hi
    rw [ringL_get (by omega), ringL_get hi, add_at m6 k6 (by omega), add_at m6 k6 hi, Nat.add_mod_right]⟩
  obtain ⟨q1, q2⟩ := perR_bd (ys := ringL (m + 2) (k + 2) (addL m k xs ps)) (by omega)
  have eC : cornersX ((m + 2 : Nat) : Int) ((k + 2 : Nat) : Int) (addL m k xs ps) = cornersL (m + 2) (k + 2) (addL m k xs ps) := if_pos hring
  refine ⟨hso, ?_, hmo, ?_, hring, p1, p8, ⟨perR (ringL (m + 2) (k + 2) (addL m k xs ps)), if_pos hring, q1, per_le p1 hper⟩, by rw [eC]; rfl, ?_⟩
  · rw [show stripX ((m + 2 : Nat) : Int) ((k + 2 : Nat) : Int) (addL m k xs ps) = partL (m + 2) (addL m k xs ps) 1 1 (k + 2 - 2) (m + 2 - 2) from if_pos hso]
    exact add_strip m6 k6 hxl
  · simp only [meetV, hmo, Bool.true_and, decide_eq_true_eq]
    exact hd'
  · rw [eC]
    show (addL m k xs ps).getD (0 * (m + 2) + 0) 0 = ps.getD 0 0
    have := add_at (xs := xs) (ps := ps) (n := 0) m6 k6 (by omega)
    rw [place0 (by omega) m6 (by omega) k6, Nat.zero_mod] at this
    rw [Nat.zero_mul]
    exact this
theorem meet_facts {W H : Int} {xs ps : List Int} (h : meetOk W H xs ps = true) : ∃ N : Nat, ringLenV W H = (N : Int) ∧ (ringSideB W && ringSideB H) = true ∧ 1 ≤ ps.length ∧ ps.length ≤ 8 ∧ N ≤ 28 ∧ meetV W H xs ps = decide (N % ps.length = 0) := by
  have h' := h
  simp only [meetOk, Bool.and_eq_true] at h'
  obtain ⟨hr, hp⟩ := h'
  obtain ⟨p1, p8, _⟩ := patB_yes hp
  obtain ⟨m, k, rfl, rfl, m2, m8, k2, k8, hx, hg, h64, hl1⟩ := hasRing_nat hr
  obtain ⟨r1, r2⟩ := ring_len_v m2 m8 k2 k8
  refine ⟨ringN m k, r2, r1, p1, p8, by unfold ringN; omega, ?_⟩
  simp only [meetV, h, Bool.true_and]
  rfl
theorem near_facts {W H L : Int} (h : (nearF W H L).isSome = true) : ∃ a b N l : Nat, encA (nearF W H L) = (a : Int) ∧ encB (nearF W H L) = (b : Int) ∧ L = (l : Int) ∧ 1 ≤ l ∧ l ≤ 8 ∧ (ringSideB a && ringSideB b) = true ∧ ringLenV a b = (N : Int) ∧ N ≤ 28 ∧ N % l = 0 ∧ a ≤ 8 ∧ b ≤ 8 := by
  by_cases hs : nearSides W H L = true
  · have e : nearF W H L = nearO W.toNat H.toNat L.toNat := if_pos hs
    rw [e] at h ⊢
    simp only [nearSides, inB, Bool.and_eq_true, decide_eq_true_eq] at hs
    cases ho : nearO W.toNat H.toNat L.toNat with
    | none => rw [ho] at h; cases h
    | some p =>
      have hin := bestN_in ho
      simp only [sizesTo, List.mem_map, List.mem_filter, List.mem_range] at hin
      obtain ⟨t, ⟨ht, hm⟩, rfl⟩ := hin
      have hm' : ringN (t / 7 + 2) (t % 7 + 2) % L.toNat = 0 := of_decide_eq_true hm
      obtain ⟨r1, r2⟩ := ring_len_v (m := t / 7 + 2) (k := t % 7 + 2) (by omega) (by omega) (by omega) (by omega)
      exact ⟨t / 7 + 2, t % 7 + 2, ringN (t / 7 + 2) (t % 7 + 2), L.toNat, rfl, rfl, by omega, by omega, by omega, r1, r2, by unfold ringN; omega, hm', by omega, by omega⟩
  · rw [show nearF W H L = none from if_neg hs] at h
    cases h
end Go.Proofs.Ytjfdcmdgpeeabaa
