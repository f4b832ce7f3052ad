/- Plain mathematics of the law on parts: a part put back, a part read again, a plain chart's longest run. -/
import Derived.Test.YtbhdgpkfighjfaaTileMath
import Derived.Test.YtbhdgpkfighjfaaPut
import Derived.Test.YtbhdgpkfighjfaaPlain
import Derived.Test.YtbhdgpkfighjfaaKnot
namespace Go.Proofs.Ytbhdgpkfighjfaa
open Go.RowKit

theorem good_mk {m k : Nat} {xs : List Int} (m1 : 1 ≤ m) (m8 : m ≤ 8) (k1 : 1 ≤ k) (k8 : k ≤ 8) (hl : xs.length = m * k) (hc : ∀ x ∈ xs, 0 ≤ x ∧ x < 6) : goodB (m : Int) (k : Int) xs = true := by
  simp only [goodB, Bool.and_eq_true, decide_eq_true_eq, List.all_eq_true]
  refine ⟨⟨⟨?_, ?_⟩, ?_⟩, fun x hx => ?_⟩
  · simp [isSideB]; omega
  · simp [isSideB]; omega
  · rw [hl, Int.natCast_mul]
  · simpa [isColorB] using hc x hx
theorem grid_mem {h k : Nat} {f : Nat → Nat → Int} {x : Int} (hx : x ∈ gridL h k f) : ∃ i j, i < h ∧ j < k ∧ x = f i j := by
  unfold gridL at hx
  obtain ⟨q, hq, rfl⟩ := List.mem_map.1 hx
  obtain ⟨h1, h2, _⟩ := place_of (List.mem_range.1 hq)
  exact ⟨_, _, h1, h2, rfl⟩
theorem elt_mem {m k i j : Nat} {xs : List Int} (hl : xs.length = m * k) (hi : i < k) (hj : j < m) : elt m xs i j ∈ xs := by
  unfold elt
  rw [getD_at (at_lt hl hi hj)]
  exact List.getElem_mem _
theorem part_grid {m r c h k : Nat} {xs : List Int} : partL m xs r c h k = gridL h k fun i j => elt m xs (r + i) (c + j) := rfl
theorem part_cols {m kk r c h k : Nat} {xs : List Int} (hl : xs.length = m * kk) (hr : r + h ≤ kk) (hc : c + k ≤ m) (hx : ∀ x ∈ xs, 0 ≤ x ∧ x < 6) : ∀ x ∈ partL m xs r c h k, 0 ≤ x ∧ x < 6 := by
  intro x hm
  rw [part_grid] at hm
  obtain ⟨i, j, hi, hj, rfl⟩ := grid_mem hm
  exact hx _ (elt_mem hl (by omega) (by omega))
theorem put_cols {m kk pm pk r q : Nat} {xs ys : List Int} (hl : xs.length = m * kk) (hl' : ys.length = pm * pk) (hx : ∀ x ∈ xs, 0 ≤ x ∧ x < 6) (hy : ∀ x ∈ ys, 0 ≤ x ∧ x < 6) : ∀ x ∈ putL m kk pm pk xs ys r q, 0 ≤ x ∧ x < 6 := by
  intro x hm
  obtain ⟨i, j, hi, hj, rfl⟩ := grid_mem hm
  unfold putE
  split
  · exact hy _ (elt_mem hl' (by omega) (by omega))
  · exact hx _ (elt_mem hl hi hj)
theorem put_back {m kk r c h k : Nat} {xs : List Int} (hl : xs.length = m * kk) : putL m kk k h xs (partL m xs r c h k) r c = xs := by
  symm
  refine gridL_ext (by rw [hl, Nat.mul_comm]) fun i j hi hj => ?_
  show elt m xs i j = _
  unfold putE
  by_cases e : c ≤ j ∧ j < c + k ∧ r ≤ i ∧ (i < r + h ∨ (i = r + h ∧ j < c + 0))
  · rw [if_pos e, part_elt (by omega) (by omega), show r + (i - r) = i by omega, show c + (j - c) = j by omega]
  · rw [if_neg e]
theorem part_put {m kk pm pk r c : Nat} {xs ys : List Int} (hl' : ys.length = pm * pk) (hr : r + pk ≤ kk) (hc : c + pm ≤ m) : partL m (putL m kk pm pk xs ys r c) r c pk pm = ys := by
  symm
  rw [part_grid]
  refine gridL_ext (by rw [hl', Nat.mul_comm]) fun i j hi hj => ?_
  have : elt m (putL m kk pm pk xs ys r c) (r + i) (c + j) = putE m pm xs ys r c pk 0 (r + i) (c + j) := gridL_get (by omega) (by omega)
  rw [this, putE, if_pos (by omega), Nat.add_sub_cancel_left, Nat.add_sub_cancel_left]
  rfl
/-- A part that is put back; its first knot. -/
theorem parts_back {W H : Int} {xs : List Int} {row col h k : Int} (hp : partOk W H xs row col h k = true) :
    putOk W H xs k h (partX W H xs row col h k) row col = true ∧ putX W H xs k h (partX W H xs row col h k) row col = xs ∧ knotOk k h (partX W H xs row col h k) 0 0 = true ∧ knotOk W H xs row col = true ∧ knotV k h (partX W H xs row col h k) 0 0 = knotV W H xs row col := by
  have hX : partX W H xs row col h k = partL W.toNat xs row.toNat col.toNat h.toNat k.toNat := if_pos hp
  obtain ⟨m, kk, r, c, h', k', rfl, rfl, rfl, rfl, rfl, rfl, hg, m1, m8, k8, hl, h64, hx64, hx1, hrh, hck, h1, k1⟩ := part_nat hp
  simp only [Int.toNat_natCast] at hX
  rw [hX]
  have hcx := (good_bd hg).2.2
  have hgp : goodB (k' : Int) (h' : Int) (partL m xs r c h' k') = true := good_mk k1 (by omega) h1 (by omega) (by rw [partL_len, Nat.mul_comm]) (part_cols hl.out hrh hck hcx)
  have hw : withinB (m : Int) (kk : Int) (r : Int) (c : Int) (h' : Int) (k' : Int) = true := by simp [partOk] at hp; exact hp.2
  have hput : putOk (m : Int) (kk : Int) xs (k' : Int) (h' : Int) (partL m xs r c h' k') (r : Int) (c : Int) = true := by simp [putOk, hg, hgp, hw]
  have hk1 : knotOk (k' : Int) (h' : Int) (partL m xs r c h' k') 0 0 = true := by simp [knotOk, hgp, withinB]; omega
  have hk2 : knotOk (m : Int) (kk : Int) xs (r : Int) (c : Int) = true := by simp [knotOk, hg, withinB]; omega
  refine ⟨hput, ?_, hk1, hk2, ?_⟩
  · unfold putX
    rw [if_pos hput]
    exact put_back hl.out
  · unfold knotV
    rw [if_pos hk1, if_pos hk2]
    simp only [Int.toNat_natCast]
    have := part_elt (m := m) (r := r) (c := c) (h := h') (k := k') (i := 0) (j := 0) (xs := xs) (by omega) (by omega)
    simpa [elt] using this
/-- A part that was put in is read again. -/
theorem parts_again {W H : Int} {xs : List Int} {pW pH : Int} {ys : List Int} {row col : Int} (h : putOk W H xs pW pH ys row col = true) :
    partOk W H (putX W H xs pW pH ys row col) row col pH pW = true ∧ partX W H (putX W H xs pW pH ys row col) row col pH pW = ys := by
  have hX : putX W H xs pW pH ys row col = putL W.toNat H.toNat pW.toNat pH.toNat xs ys row.toNat col.toNat := if_pos h
  obtain ⟨g1, g2, hw⟩ := put_yes h
  obtain ⟨m, kk, pm, pk, r, q, rfl, rfl, rfl, rfl, rfl, rfl, m1, m8, k1, k8, pm1, pm8, pk1, pk8, hl, hl', h64, h64', hl1, hl1', hx64, hy64, hr, hq⟩ := put_nat h
  simp only [Int.toNat_natCast] at hX
  rw [hX]
  have hg : goodB (m : Int) (kk : Int) (putL m kk pm pk xs ys r q) = true := good_mk m1 m8 k1 k8 (by rw [putL_len, Nat.mul_comm]) (put_cols hl.out hl'.out (good_bd g1).2.2 (good_bd g2).2.2)
  have hp : partOk (m : Int) (kk : Int) (putL m kk pm pk xs ys r q) (r : Int) (q : Int) (pk : Int) (pm : Int) = true := by simp [partOk, hg, hw]
  refine ⟨hp, ?_⟩
  unfold partX
  rw [if_pos hp]
  exact part_put hl'.out hr hq
theorem cur_const {e : Nat → Int} {v : Int} {n : Nat} (h : ∀ j, j < n → e j = v) : ∀ k, k ≤ n → cur e k = k := by
  intro k
  induction k with
  | zero => intro _; rfl
  | succ k ih =>
    intro hk
    rw [cur_succ]
    have := ih (by omega)
    by_cases h0 : 0 < k
    · rw [if_pos ⟨h0, by rw [h k (by omega), h (k - 1) (by omega)]⟩, this]; omega
    · rw [if_neg (fun hh => h0 hh.1)]; omega
theorem best_const {e : Nat → Int} {v : Int} {n : Nat} (h : ∀ j, j < n → e j = v) : ∀ k, k ≤ n → best e k = k := by
  intro k
  induction k with
  | zero => intro _; rfl
  | succ k ih =>
    intro hk
    rw [best_succ, ih (by omega), cur_const h (k + 1) hk]
    omega
/-- A plain chart's longest run is a whole row. -/
theorem plain_run {W H q : Int} (h : plainOk W H q = true) : goodB W H (plainL W H q) = true ∧ runN W H (plainL W H q) = W := by
  have hX : plainL W H q = List.replicate (W.toNat * H.toNat) q := if_pos h
  obtain ⟨m, k, rfl, rfl, h1, h2, h3⟩ := plain_yes h
  simp only [Int.toNat_natCast] at hX
  have s1 := isSideB_yes h1
  have s2 := isSideB_yes h2
  have c := isColorB_yes h3
  have hg : goodB (m : Int) (k : Int) (plainL m k q) = true := by
    rw [hX]
    exact good_mk (by omega) (by omega) (by omega) (by omega) (by simp) (fun x hx => by rw [List.eq_of_mem_replicate hx]; exact c)
  refine ⟨hg, ?_⟩
  unfold runN
  rw [if_pos hg]
  simp only [Int.toNat_natCast]
  rw [hX]
  have hrow : ∀ r, r < k → best (elt m (List.replicate (m * k) q) r) m = m := fun r hr => best_const (v := q) (n := m) (fun j hj => by
    unfold elt
    have := at_lt (n := m * k) rfl hr hj
    rw [getD_at (by simpa using this)]
    simp) m (Nat.le_refl _)
  have : ∀ r, r ≤ k → 1 ≤ r → mostR m (List.replicate (m * k) q) r = m := by
    intro r
    induction r with
    | zero => intro _ h; omega
    | succ r ih =>
      intro hr _
      have hb := hrow r (by omega)
      have hmb := mostR_bd m (List.replicate (m * k) q) r
      unfold mostR
      rw [hb]
      (try split) <;> omega
  exact this k (Nat.le_refl _) (by omega)
end Go.Proofs.Ytbhdgpkfighjfaa
