/- append of a list of elements to a row of the call's own, as a step of a walk. Condition: few elements. -/
import Derived.Test.YtihhlldpdfihfaaSeq
namespace Go.Proofs.Ytihhlldpdfihfaa
open Go.RowKit

section
variable {α : Type} {F : Flat α} {w : World}
theorem flat_one (F : Flat α) (xs : List α) : ∀ u ∈ xs.flatMap F.enc, u.oneCell' = true := by
  intro u hu
  obtain ⟨a, _, ha⟩ := List.mem_flatMap.1 hu
  exact F.one a u ha
/-- The cells of a slice, one after the other. -/
theorem RdF.flat {B n c b off : Nat} {xs : List α} (h : RdF F w B (some ⟨b, off, none⟩) n c xs) (hk : 0 < F.k) : ∀ j u, (xs.flatMap F.enc)[j]? = some u → w.cell? ((⟨b, off, none⟩ : Addr).add j) = some u := by
  intro j u hu
  have hl := h.len
  have ea : (⟨b, off, none⟩ : Addr).add j = ⟨b, off + j, none⟩ := by unfold Addr.add; split <;> simp_all
  rw [ea]
  have hj : j < n * F.k := by have := (List.getElem?_eq_some_iff.1 hu).1; rwa [flat_len F.len, hl] at this
  have hq : j / F.k < n := Nat.div_lt_of_lt_mul (by rw [Nat.mul_comm]; exact hj)
  have hql : j / F.k < xs.length := by rw [hl]; exact hq
  have hm := Nat.mod_lt j hk
  have e : j = j / F.k * F.k + j % F.k := by rw [Nat.mul_comm]; exact (Nat.div_add_mod j F.k).symm
  obtain ⟨_, _, e', _, hc⟩ := h.cells (Nat.lt_of_le_of_lt (Nat.zero_le _) hq)
  cases e'
  have hx : xs[j / F.k]? = some (xs[j / F.k]'hql) := List.getElem?_eq_getElem hql
  have hu' : (F.enc (xs[j / F.k]'hql))[j % F.k]? = some u := by
    rw [← flat_get F.len hx hm, ← e]; exact hu
  have := hc _ _ _ _ hx hu'
  rwa [← e] at this
/-- A literal of one element. -/
theorem RdF.lit {w : World} {cs : Array Value} {a : α} (e : cs.toList = F.enc a) (ha : F.ok a) : RdF F (w.alloc (.cells cs F.t)) (w.heap.size + 1) (some ⟨w.heap.size, 0, none⟩) 1 1 [a] := by
  refine ⟨rfl, Nat.le_refl _, by unfold maxLen; omega, fun _ => ⟨w.heap.size, 0, rfl, by omega, fun j i x v hj hi => ?_⟩, fun x hx => ?_, fun h => by cases h⟩
  · have hj0 : j = 0 := by
      have := (List.getElem?_eq_some_iff.1 hj).1
      simp at this; omega
    subst hj0
    simp at hj
    subst hj
    rw [(Blk.new w cs F.t).cell, Nat.zero_mul, Nat.zero_add, Nat.zero_add, ← Array.getElem?_toList, e]
    exact hi
  · simp at hx; subst hx; exact ha
end
theorem wp_appendF {α : Type} (F : Flat α) {P : Program} {o : Oper} {a : Act} {K : Act → World → Prop} {Q : Exit → Act → World → Prop} (w : World) (s x : Operand) (T : TypeId) (z : Value) (bytes : Nat)
    (ho : o.op = .call { callee := .builtin .append, args := #[s, x], argTypes := #[T, T] }) (ht : P.underlying T = some (.slice F.t)) (hinfo : (P.info? F.t).map (fun i => (i.zero, i.size, i.bytes)) = some (some z, F.k, bytes))
    (hzs : z.cells.size = F.k) (hk : 0 < F.k) (hby : bytes ≤ 1024)
    (lo : Nat) (v : Value) (xs ys : List α) (b off m c B : Nat)
    (hs : a.eval s = v) (hx : a.eval x = .slice (some ⟨b, off, none⟩) m c) (hown : OwnF F w lo v xs) (hy : RdF F w B (some ⟨b, off, none⟩) m c ys) (hlen : xs.length + ys.length ≤ 1073741824) (hlo : lo ≤ w.heap.size)
    (h : ∀ A' c' w', OwnF F w' lo (.slice A' (xs.length + ys.length) c') (xs ++ ys) → w.grownBy w' v.ownBlock → K (a.put o.dst (.slice A' (xs.length + ys.length) c')) w') :
    o.wp P a w K Q := by
  obtain ⟨i0, hi, hz0, hz1, hz2⟩ := info_parts hinfo
  obtain rfl := hy.len
  have hbb : (xs.length + ys.length) * bytes ≤ 1073741824 * 1024 := Nat.mul_le_mul hlen hby
  refine wp_append_own _ s x T ho lo F.t i0 z F.k bytes ht hi hz0 hz1 hz2 hzs hk v xs.length _ hs hown.1 ⟨b, off, none⟩ ys.length c (ys.flatMap F.enc) hx (flat_len F.len _) (hy.flat hk) (flat_one F ys) (by unfold maxLen; omega) (by omega) hlo ?_
  intro v' w' ho' hg' _
  have hO : OwnF F w' lo v' (xs ++ ys) := ⟨by rw [List.flatMap_append, List.length_append]; exact ho', fun y hy' => by
    rcases List.mem_append.1 hy' with hy' | hy'
    · exact hown.2 y hy'
    · exact hy.fits y hy'⟩
  obtain ⟨A', c', rfl, _, _⟩ := hO.form
  rw [List.length_append] at hO
  have := h A' c' w' hO hg'
  rwa [List.length_append]
theorem wpList_appendF {α : Type} (F : Flat α) {P : Program} {ops : Array Oper} {rest : List Oper} {o : Oper} {a : Act} {Q : Exit → Act → World → Prop} (hgd : o.guard = none) (w : World) (s x : Operand) (T : TypeId) (z : Value) (bytes : Nat)
    (ho : o.op = .call { callee := .builtin .append, args := #[s, x], argTypes := #[T, T] }) (ht : P.underlying T = some (.slice F.t)) (hinfo : (P.info? F.t).map (fun i => (i.zero, i.size, i.bytes)) = some (some z, F.k, bytes))
    (hzs : z.cells.size = F.k) (hk : 0 < F.k) (hby : bytes ≤ 1024)
    (lo : Nat) (v : Value) (xs ys : List α) (b off m c B : Nat)
    (hs : a.eval s = v) (hx : a.eval x = .slice (some ⟨b, off, none⟩) m c) (hown : OwnF F w lo v xs) (hy : RdF F w B (some ⟨b, off, none⟩) m c ys) (hlen : xs.length + ys.length ≤ 1073741824) (hlo : lo ≤ w.heap.size)
    (h : ∀ A' c' w', OwnF F w' lo (.slice A' (xs.length + ys.length) c') (xs ++ ys) → w.grownBy w' v.ownBlock → wpList P ops Q rest (a.put o.dst (.slice A' (xs.length + ys.length) c')) w') :
    wpList P ops Q (o :: rest) a w :=
  wpList_plain hgd fun _ hK => wp_appendF F w s x T z bytes ho ht hinfo hzs hk hby lo v xs ys b off m c B hs hx hown hy hlen hlo fun A' c' w' h5 h6 => hK _ _ (h A' c' w' h5 h6)
end Go.Proofs.Ytihhlldpdfihfaa
