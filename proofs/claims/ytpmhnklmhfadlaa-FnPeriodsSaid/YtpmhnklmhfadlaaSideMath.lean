/- Plain mathematics of charts of one width side by side, and of a chart repeated downwards. -/
import Derived.Test.YtpmhnklmhfadlaaSide
import Derived.Test.YtpmhnklmhfadlaaMgSeq
namespace Go.Proofs.Ytpmhnklmhfadlaa
open Go.RowKit

theorem range_more (n k : Nat) : List.range (n + k) = List.range n ++ (List.range k).map (n + ·) := List.range_add
theorem gridL_more (h d k : Nat) (f : Nat → Nat → Int) (hk : 1 ≤ k) : gridL (h + d) k f = gridL h k f ++ gridL d k (fun i j => f (h + i) j) := by
  unfold gridL
  rw [Nat.add_mul, range_more, List.map_append, List.map_map]
  congr 1
  refine List.map_congr_left fun q _ => ?_
  simp only [Function.comp]
  have e1 : (h * k + q) / k = h + q / k := by rw [Nat.mul_comm, Nat.mul_add_div (by omega)]
  have e2 : (h * k + q) % k = q % k := by rw [Nat.mul_comm, Nat.mul_add_mod]
  rw [e1, e2]
theorem gridL_row (k : Nat) (f : Nat → Nat → Int) : gridL 1 k f = (List.range k).map (f 0) := by
  unfold gridL
  rw [Nat.one_mul]
  refine List.map_congr_left fun q hq => ?_
  have hq := List.mem_range.1 hq
  rw [Nat.div_eq_of_lt hq, Nat.mod_eq_of_lt hq]
theorem rowL_map {m k r : Nat} {xs : List Int} (hl : xs.length = m * k) (hr : r < k) : rowL m r xs = (List.range m).map (elt m xs r) := by
  apply List.ext_getElem?
  intro j
  by_cases hj : j < m
  · have hlen := rowL_len hl hr
    rw [List.getElem?_map, List.getElem?_range hj, List.getElem?_eq_getElem (by omega)]
    have := rowL_get (xs := xs) (r := r) hj
    rw [getD_at (by omega)] at this
    rw [this]; rfl
  · rw [List.getElem?_eq_none (by rw [rowL_len hl hr]; omega), List.getElem?_eq_none (by simp; omega)]
/-- Charts of one size, told by a function. -/
def picsF (m k a : Nat) (F : Nat → List Int) : List Pic := (List.range a).map fun i => ⟨m, k, F i⟩
section
variable {m k a r t d A : Nat} {F : Nat → List Int}
theorem picsF_len : (picsF m k a F).length = a := by simp [picsF]
theorem picsF_at (h : t < a) : (picsF m k a F)[t]? = some ⟨m, k, F t⟩ := by
  unfold picsF
  rw [List.getElem?_map, List.getElem?_range h]; rfl
theorem picsF_ok (hm : 1 ≤ m) (hm8 : m ≤ 8) (hk : 1 ≤ k) (hk8 : k ≤ 8) (hF : ∀ i, i < a → (F i).length = m * k) : PsOk k (picsF m k a F) := by
  intro q hq
  unfold picsF at hq
  obtain ⟨i, hi, rfl⟩ := List.mem_map.1 hq
  exact ⟨pic_ok hm hm8 hk hk8 (hF i (List.mem_range.1 hi)), rfl⟩
theorem widP_pics (h : t ≤ a) : widP (picsF m k a F) t = t * m := by
  induction t with
  | zero => simp [widP]
  | succ t ih => rw [widP_succ (picsF_at (by omega)), ih (by omega), Nat.succ_mul]
theorem rowsTo_pics (hm : 1 ≤ m) (hr : r < k) (hF : ∀ i, i < a → (F i).length = m * k) (h : t ≤ a) : rowsTo (picsF m k a F) r t = (List.range (t * m)).map fun j => elt m (F (j / m)) r (j % m) := by
  induction t with
  | zero => simp [rowsTo]
  | succ t ih =>
    rw [rowsTo_succ (picsF_at (by omega)), ih (by omega), Nat.succ_mul, range_more, List.map_append, rowL_map (hF t (by omega)) hr, List.map_map]
    congr 1
    refine List.map_congr_left fun q hq => ?_
    have hq := List.mem_range.1 hq
    simp only [Function.comp]
    rw [Nat.mul_comm t m, Nat.mul_add_div (by omega), Nat.div_eq_of_lt hq, Nat.add_zero, Nat.mul_add_mod, Nat.mod_eq_of_lt hq]
theorem sideTo_pics (hm : 1 ≤ m) (ha : 1 ≤ a) (hF : ∀ i, i < a → (F i).length = m * k) (h : t ≤ k) : sideTo (picsF m k a F) t = gridL t (a * m) fun i j => elt m (F (j / m)) i (j % m) := by
  induction t with
  | zero => simp [sideTo, gridL]
  | succ t ih =>
    have h1 : 1 * 1 ≤ a * m := Nat.mul_le_mul ha hm
    rw [sideTo_succ, ih (by omega), picsF_len, rowsTo_pics hm (by omega) hF (Nat.le_refl _), gridL_more _ _ _ _ h1, gridL_row]
    rfl
theorem repT_succ' {α : Type} {xs : List α} {m : Nat} : repT xs (m + 1) = repT xs m ++ xs := by
  unfold repT
  rw [List.replicate_succ', List.flatten_append]
  simp
theorem repT_grid {g : Nat → Nat → Int} (hA : 1 ≤ A) : repT (gridL k A g) d = gridL (d * k) A fun i j => g (i % k) j := by
  induction d with
  | zero => simp [repT, gridL]
  | succ d ih =>
    rw [repT_succ', ih, Nat.succ_mul, gridL_more _ _ _ _ hA]
    congr 1
    refine gridL_congr fun i j hi _ => ?_
    rw [Nat.mul_comm, Nat.mul_add_mod, Nat.mod_eq_of_lt hi]
/-- The program's repeated motif is the model's. -/
theorem rep_tile {xs : List Int} (hm : 1 ≤ m) (ha : 1 ≤ a) (hl : xs.length = m * k) : repT (sideTo (picsF m k a fun _ => xs) k) d = repL m k xs a d := by
  have h1 : 1 * 1 ≤ a * m := Nat.mul_le_mul ha hm
  rw [sideTo_pics hm ha (fun _ _ => hl) (Nat.le_refl _), repT_grid h1]
  rfl
theorem mir_tile {xs : List Int} (hm : 1 ≤ m) (ha : 1 ≤ a) (hl : xs.length = m * k) : sideTo (picsF m k a fun i => if i % 2 = 1 then mirrorL m k xs else xs) k = mirRepL m k xs a := by
  rw [sideTo_pics hm ha (fun i _ => by split; rw [mirrorL_len, Nat.mul_comm]; exact hl) (Nat.le_refl _)]
  unfold mirRepL tileL
  rw [Nat.one_mul]
  refine gridL_congr fun i j hi hj => ?_
  unfold mirF
  rw [Nat.mod_eq_of_lt hi]
  split
  · exact mirror_elt hi (Nat.mod_lt _ hm)
  · rfl
/-- A chart whose lower half comes to the top. -/
theorem half_elt {xs : List Int} {h i j : Nat} (hl : xs.length = m * (2 * h)) (hi : i < 2 * h) (hj : j < m) : elt m (xs.drop (h * m) ++ xs.take (h * m)) i j = elt m xs ((i + h) % (2 * h)) j := by
  have e0 : h * m + h * m = xs.length := by rw [hl, Nat.mul_comm m, Nat.mul_assoc, Nat.two_mul]
  have hdl : (xs.drop (h * m)).length = h * m := by rw [List.length_drop]; omega
  unfold elt
  by_cases hh : i < h
  · have h1 : (i + 1) * m ≤ h * m := Nat.mul_le_mul_right _ hh
    rw [Nat.succ_mul] at h1
    rw [Nat.mod_eq_of_lt (by omega), List.getD_eq_getElem?_getD, List.getD_eq_getElem?_getD, List.getElem?_append_left (by omega), List.getElem?_drop, Nat.add_mul]
    congr 2
    omega
  · have e1 : (i + h) % (2 * h) = i - h := by rw [show i + h = (i - h) + 2 * h by omega, Nat.add_mod_right, Nat.mod_eq_of_lt (by omega)]
    have h1 : h * m ≤ i * m := Nat.mul_le_mul_right _ (by omega)
    have h2 : (i - h + 1) * m ≤ h * m := Nat.mul_le_mul_right _ (by omega)
    rw [Nat.succ_mul, Nat.sub_mul] at h2
    rw [e1, List.getD_eq_getElem?_getD, List.getD_eq_getElem?_getD, List.getElem?_append_right (by omega), List.getElem?_take, if_pos (by omega), Nat.sub_mul, hdl]
    congr 2
    omega
theorem drop_tile {xs : List Int} {h : Nat} (hm : 1 ≤ m) (hl : xs.length = m * (2 * h)) : sideTo (picsF m (2 * h) 2 fun i => if i = 0 then xs else xs.drop (h * m) ++ xs.take (h * m)) (2 * h) = dropL m (2 * h) xs := by
  have e0 : h * m + h * m = xs.length := by rw [hl, Nat.mul_comm m, Nat.mul_assoc, Nat.two_mul]
  rw [sideTo_pics hm (by omega) (fun i _ => by split; exact hl; rw [List.length_append, List.length_drop, List.length_take]; omega) (Nat.le_refl _)]
  unfold dropL
  refine gridL_congr fun i j hi hj => ?_
  rw [show 2 * h / 2 = h by omega]
  by_cases hj1 : j < m
  · rw [Nat.div_eq_of_lt hj1, Nat.mod_eq_of_lt hj1, if_pos rfl, if_pos hj1]
  · have e1 : j / m = 1 := Nat.div_eq_of_lt_le (by omega) (by omega)
    have e2 : j % m = j - m := by rw [Nat.mod_eq_sub_mod (by omega), Nat.mod_eq_of_lt (by omega)]
    rw [e1, e2, if_neg (by omega), if_neg hj1]
    exact half_elt hl hi (by omega)
end
end Go.Proofs.Ytpmhnklmhfadlaa
