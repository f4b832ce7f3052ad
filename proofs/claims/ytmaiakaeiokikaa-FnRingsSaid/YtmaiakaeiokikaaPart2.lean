/- The walk of the program's PartOf. No condition. -/
import Derived.Test.YtmaiakaeiokikaaPart
namespace Go.Proofs.Ytmaiakaeiokikaa
open Go.RowKit

theorem rowOf_n (m k r b off n c : Nat) (w : World) (h : n = m * k) (hc : n ≤ c) (hcm : c ≤ maxLen) (hm : 1 ≤ m) (hm8 : m ≤ 8) (hr : r < k) (hk8 : k ≤ 8) (a b' : Int) (i : Int) (ha : a = m) (hb : b' = k) (hi : i = r) :
    Calls Try.prog 40 #[chartV a b' (.slice (some ⟨b, off, none⟩) n c), .int .i64 i] w (Out w (.slice (some ⟨b, off + r * m, none⟩) m (c - r * m))) := by
  subst ha; subst hb; subst hi
  have := rowOf_any m k r b off c (List.replicate n 0) w (by rw [List.length_replicate]; exact h) (by rw [List.length_replicate]; exact hc) hcm hm hm8 hr hk8
  rwa [List.length_replicate] at this
theorem rowOf_0 (m k r b n c : Nat) (w : World) (h : n = m * k) (hc : n ≤ c) (hcm : c ≤ maxLen) (hm : 1 ≤ m) (hm8 : m ≤ 8) (hr : r < k) (hk8 : k ≤ 8) (a b' : Int) (i : Int) (ha : a = m) (hb : b' = k) (hi : i = r) :
    Calls Try.prog 40 #[chartV a b' (.slice (some ⟨b, 0, none⟩) n c), .int .i64 i] w (Out w (.slice (some ⟨b, r * m, none⟩) m (c - r * m))) := by
  have := rowOf_n m k r b 0 n c w h hc hcm hm hm8 hr hk8 a b' i ha hb hi
  rwa [Nat.zero_add] at this
/-- A row of a part, as cells. -/
def prow (m : Nat) (xs : List Int) (r c k : Nat) : List Int := (List.range k).map fun j => elt m xs r (c + j)
theorem prow_len (m : Nat) (xs : List Int) (r c k : Nat) : (prow m xs r c k).length = k := by simp [prow]
theorem prow_splice {m : Nat} {xs : List Int} {r c h k i : Nat} {ys : List Int} (hi : i < h) (hl : ys.length = h * k) (ht : ys.take (i * k) = (partL m xs r c h k).take (i * k)) :
    (splice (ys.map (Value.int .i64)) (i * k) ((prow m xs (r + i) c k).map (Value.int .i64))) = (splice ys (i * k) (prow m xs (r + i) c k)).map (Value.int .i64) ∧ (splice ys (i * k) (prow m xs (r + i) c k)).length = h * k ∧
      (splice ys (i * k) (prow m xs (r + i) c k)).take ((i + 1) * k) = (partL m xs r c h k).take ((i + 1) * k) := by
  have hle : (i + 1) * k ≤ h * k := Nat.mul_le_mul_right _ hi
  rw [Nat.succ_mul] at hle
  refine ⟨by simp [splice, List.map_take, List.map_drop], ?_, ?_⟩
  · rw [length_splice _ _ _ (by rw [prow_len, hl]; exact hle), hl]
  · have hp : (partL m xs r c h k).take (i * k) ++ prow m xs (r + i) c k = (partL m xs r c h k).take ((i + 1) * k) := by
      have : ∀ j, j ≤ k → (partL m xs r c h k).take (i * k) ++ (prow m xs (r + i) c k).take j = (partL m xs r c h k).take (i * k + j) := by
        intro j
        induction j with
        | zero => intro _; simp
        | succ j ih =>
          intro hj
          rw [← Nat.add_assoc, partL_take hi (by omega), ← ih (by omega), List.append_assoc, List.take_succ_eq_append_getElem (by rw [prow_len]; omega)]
          congr 2
          simp [prow]
      have := this k (Nat.le_refl _)
      have e : (prow m xs (r + i) c k).take k = prow m xs (r + i) c k := List.take_of_length_le (by rw [prow_len]; exact Nat.le_refl _)
      rw [e] at this
      rw [this, Nat.succ_mul]
    rw [← hp, ← ht]
    unfold splice
    rw [← List.append_assoc, List.take_append_of_le_length (by rw [List.length_append, take_len (by omega), prow_len, Nat.succ_mul]; exact Nat.le_refl _), List.take_of_length_le (by rw [List.length_append, take_len (by omega), prow_len, Nat.succ_mul]; exact Nat.le_refl _)]

theorem prow_src {w : World} {B b off cc m kk r c k : Nat} {xs : List Int} (h : Rd w B (some ⟨b, off, none⟩) xs.length cc xs) (hl : xs.length = m * kk) (hr : r < kk) (hck : c + k ≤ m) :
    ∀ j v, ((prow m xs r c k).map (Value.int .i64))[j]? = some v → w.cell? ((⟨b, off + r * m + c, none⟩ : Addr).add j) = some v := by
  intro j v hv
  have hj : j < k := by have := (List.getElem?_eq_some_iff.1 hv).1; simpa [prow] using this
  have hlt := at_lt hl hr (show c + j < m by omega)
  obtain ⟨_, _, e, _, hc⟩ := h.cells (by omega)
  cases e
  have e : (⟨b, off + r * m + c, none⟩ : Addr).add j = ⟨b, off + (r * m + (c + j)), none⟩ := by
    unfold Addr.add
    split
    · rename_i h0; subst h0; first | (simp; done) | (simp; omega)
    · first | (simp [Nat.add_assoc]; done) | (simp; omega)
  rw [e, hc _ hlt]
  simp [prow, hj] at hv
  rw [← hv]; rfl

end Go.Proofs.Ytmaiakaeiokikaa
