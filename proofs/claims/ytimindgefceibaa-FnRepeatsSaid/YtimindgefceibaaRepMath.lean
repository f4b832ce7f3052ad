/- Plain mathematics of a list repeated. -/
import Derived.Test.YtimindgefceibaaCopyF
namespace Go.Proofs.Ytimindgefceibaa
open Go.RowKit

/-- A list some times over. -/
def repT {α : Type} (xs : List α) (m : Nat) : List α := (List.replicate m xs).flatten
section
variable {α : Type} {xs zs : List α} {m q : Nat}
theorem repT_succ : repT xs (m + 1) = xs ++ repT xs m := by unfold repT; rw [List.replicate_succ, List.flatten_cons]
theorem repT_len : (repT xs m).length = m * xs.length := by
  induction m with
  | zero => simp [repT]
  | succ m ih => rw [repT_succ, List.length_append, ih, Nat.succ_mul, Nat.add_comm]
theorem repT_at : ∀ (m j : Nat), j < m * xs.length → (repT xs m)[j]? = xs[j % xs.length]?
  | 0, j, h => by simp at h
  | m + 1, j, h => by
    rw [repT_succ]
    by_cases hj : j < xs.length
    · rw [List.getElem?_append_left hj, Nat.mod_eq_of_lt hj]
    · rw [List.getElem?_append_right (by omega), repT_at m (j - xs.length) (by rw [Nat.succ_mul] at h; omega)]
      congr 1
      conv => rhs; rw [show j = j - xs.length + xs.length by omega, Nat.add_mod_right]
theorem repT_mem {x : α} (h : x ∈ repT xs m) : x ∈ xs := by
  unfold repT at h
  obtain ⟨l, hl, hx⟩ := List.mem_flatten.1 h
  rw [List.mem_replicate] at hl
  rwa [hl.2] at hx
/-- The first q places of a row that is being filled stand. -/
def RepTo (xs : List α) (m q : Nat) (zs : List α) : Prop := zs.length = m * xs.length ∧ (∃ d, q = d * xs.length ∨ q = m * xs.length) ∧ q ≤ m * xs.length ∧ zs.take q = (repT xs m).take q
theorem rep_end (h : RepTo xs m (m * xs.length) zs) : zs = repT xs m := by
  have := h.2.2.2
  rwa [List.take_of_length_le (by rw [h.1]; exact Nat.le_refl _), List.take_of_length_le (by rw [repT_len]; exact Nat.le_refl _)] at this
theorem rep_at (h : RepTo xs m q zs) {j : Nat} (hj : j < q) : zs[j]? = xs[j % xs.length]? := by
  have h1 := congrArg (fun l => l[j]?) h.2.2.2
  simp only [List.getElem?_take, if_pos hj] at h1
  rw [h1]
  exact repT_at m j (Nat.lt_of_lt_of_le hj h.2.2.1)
/-- A row is copied on behind itself. -/
theorem rep_step (h : RepTo xs m q zs) {d p : Nat} (hq : q = d * xs.length) (hp : p ≤ q) (hpm : p = q ∨ q + p = m * xs.length) (hl : q + p ≤ m * xs.length) : RepTo xs m (q + p) (splice zs q (zs.take p)) := by
  have hz := h.1
  have hrl : (zs.take p).length = p := by rw [List.length_take]; omega
  have hsl : (splice zs q (zs.take p)).length = zs.length := length_splice _ _ _ (by rw [hrl]; omega)
  refine ⟨hsl.trans hz, ?_, hl, ?_⟩
  · rcases hpm with rfl | e
    · exact ⟨d + d, .inl (by rw [hq, Nat.add_mul])⟩
    · exact ⟨0, .inr e⟩
  · apply List.ext_getElem?
    intro j
    rw [List.getElem?_take, List.getElem?_take]
    by_cases hj : j < q + p
    · rw [if_pos hj, if_pos hj, repT_at m j (by omega), splice_at _ _ _ _ (by rw [hrl]; omega), hrl]
      by_cases h1 : j < q
      · rw [if_pos h1]; exact rep_at h h1
      · rw [if_neg h1, if_pos hj, List.getElem?_take, if_pos (by omega), rep_at h (by omega)]
        congr 1
        conv => rhs; rw [show j = j - q + d * xs.length by omega, Nat.add_mul_mod_self_right]
    · rw [if_neg hj, if_neg hj]
theorem rep_first (hz : zs.length = m * xs.length) (hm : 1 ≤ m) : RepTo xs m xs.length (splice zs 0 xs) := by
  have hle : 1 * xs.length ≤ m * xs.length := Nat.mul_le_mul_right _ hm
  have hsl : (splice zs 0 xs).length = zs.length := length_splice _ _ _ (by omega)
  refine ⟨hsl.trans hz, ⟨1, .inl (by omega)⟩, by omega, ?_⟩
  apply List.ext_getElem?
  intro j
  rw [List.getElem?_take, List.getElem?_take]
  by_cases hj : j < xs.length
  · rw [if_pos hj, if_pos hj, repT_at m j (by omega), splice_at _ _ _ _ (by omega), if_neg (by omega), if_pos (by omega), Nat.mod_eq_of_lt hj, Nat.sub_zero]
  · rw [if_neg hj, if_neg hj]
end
end Go.Proofs.Ytimindgefceibaa
