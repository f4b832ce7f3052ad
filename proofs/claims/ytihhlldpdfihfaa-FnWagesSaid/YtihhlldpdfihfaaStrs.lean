/- Slices of strings: how they lie in memory, and the walks of the laws' own helpers over them: copy, size, equality, marking, holding. Condition: at most 1048576 elements. -/
import Derived.Test.YtihhlldpdfihfaaSeq
import Derived.Test.YtihhlldpdfihfaaHelp
import Derived.Test.YtihhlldpdfihfaaMark
namespace Go.Proofs.Ytihhlldpdfihfaa
open Go.RowKit

def strF : Flat ByteArray where
  t := 9
  k := 1
  enc s := [.string s]
  ok s := s.size ≤ maxLen
  len _ := rfl
  one _ v hv := by simp at hv; subst hv; rfl
theorem info_str : (Try.prog.info? 9).map (fun i => (i.zero, i.size, i.bytes)) = some (some (.string ⟨#[]⟩), 1, 16) := by kernel_rfl
theorem strF_flat (P : List ByteArray) : P.flatMap strF.enc = P.map Value.string := by
  induction P with
  | nil => rfl
  | cons x xs ih => rw [List.flatMap_cons, ih]; rfl
section
variable {w w' : World} {lo B n c : Nat} {A : Option Addr} {xs : List ByteArray}
theorem strs_at {j : Nat} (h : RdF strF w B A n c xs) (hj : j < n) : ∃ b off s, A = some ⟨b, off, none⟩ ∧ b < B ∧ s.size ≤ maxLen ∧ w.cell? ⟨b, off + j, none⟩ = some (.string s) ∧ Hid (xs[j]? = some s) := by
  obtain ⟨b, off, a, rfl, hb, ha, hx, hc⟩ := h.at hj
  have h0 := hc.out 0 _ rfl
  rw [show off + (j * strF.k + 0) = off + j by rw [show strF.k = 1 from rfl]; omega] at h0
  exact ⟨b, off, a, rfl, hb, ha, h0, hx⟩
theorem strs_put {g j : Nat} (h : OwnF strF w lo (.slice (some ⟨g, 0, none⟩) n c) xs) (hj : j < xs.length) (a : ByteArray) (ha : a.size ≤ maxLen) :
    OwnF strF (w.setCell ⟨g, j, none⟩ (.string a)) lo (.slice (some ⟨g, 0, none⟩) n c) (xs.set j a) ∧ w.grownBy (w.setCell ⟨g, j, none⟩ (.string a)) (some g) := by
  have H := h.put hj a ha
  rw [show j * strF.k = j from Nat.mul_one j] at H
  exact H
theorem strs_there {g j : Nat} (h : OwnF strF w lo (.slice (some ⟨g, 0, none⟩) n c) xs) (hj : j < xs.length) : (∃ y, w.cell? ⟨g, j, none⟩ = some y) ∧ w.frozen? ⟨g, j, none⟩ = false := by
  obtain ⟨y, hy⟩ := h.there hj (i := 0) (by decide)
  rw [show j * strF.k + 0 = j from Nat.mul_one j] at hy
  exact ⟨⟨y, hy⟩, h.frozen j⟩
theorem own_strs {v : Value} {P : List ByteArray} (h : w.ownsRow lo 9 1 v P.length (P.map Value.string)) (hP : ∀ x ∈ P, x.size ≤ maxLen) : OwnF strF w lo v P :=
  ⟨by rw [strF_flat]; exact h, hP⟩
end

/-- How much the strings hold. -/
def bulkStr (xs : List ByteArray) : Nat := (xs.map ByteArray.size).sum
theorem bulkStr_step {xs : List ByteArray} {k : Nat} {a : ByteArray} (h : xs[k]? = some a) : bulkStr (xs.take (k + 1)) = bulkStr (xs.take k) + a.size ∧ bulkStr (xs.take (k + 1)) ≤ bulkStr xs := by
  obtain ⟨hk, rfl⟩ := List.getElem?_eq_some_iff.1 h
  have e : bulkStr (xs.take (k + 1)) + bulkStr (xs.drop (k + 1)) = bulkStr xs := by
    unfold bulkStr
    rw [← List.sum_append_nat, ← List.map_append, List.take_append_drop]
  refine ⟨?_, by omega⟩
  unfold bulkStr
  rw [List.take_succ_eq_append_getElem hk, List.map_append, List.sum_append_nat]
  simp only [List.map_cons, List.map_nil, List.sum_cons, List.sum_nil, Nat.add_zero]
/-- The marks from k on. -/
def marksT (k : Int) (n : Nat) : List ByteArray := (List.range n).map fun j : Nat => mtext (k + (j : Int))
theorem marksT_len (k : Int) (n : Nat) : (marksT k n).length = n := by simp [marksT]
theorem marksT_get {k : Int} {n j : Nat} (h : j < n) : (marksT k n)[j]? = some (mtext (k + (j : Int))) := by simp [marksT, h]
theorem marksT_ok {k : Int} {n : Nat} (h0 : 0 ≤ k) (h1 : k + n ≤ 4294967296) : ∀ x ∈ marksT k n, x.size ≤ maxLen := by
  intro x hx
  simp only [marksT, List.mem_map, List.mem_range] at hx
  obtain ⟨j, hj, rfl⟩ := hx
  exact mtext_size _ (by omega) (by omega)
/-- What marking leaves: the slice's own block alone has turned (and what the digits' making laid beyond). -/
def MarkedT (w : World) (lo : Nat) (v : Value) (k : Int) (n : Nat) (e : Ending) (w' : World) : Prop :=
  e = .returned (.int .i64 (k + n)) ∧ OwnF strF w' lo v (marksT k n) ∧ w.grownBy w' v.ownBlock
/-- append of one string to a slice of the call's own. -/
theorem wpList_append_s {P : Program} {ops : Array Oper} {rest : List Oper} {o : Oper} {a : Act} {Q : Exit → Act → World → Prop} (w : World) (hgd : o.guard = none) (s x : Operand) (T : TypeId)
    (ho : o.op = .call { callee := .builtin .append, args := #[s, x], argTypes := #[T, T] }) (ht : P.underlying T = some (.slice 9)) (hinfo : (P.info? 9).map (fun i => (i.zero, i.size, i.bytes)) = some (some (.string ⟨#[]⟩), 1, 16))
    (lo : Nat) (v : Value) (xs : List ByteArray) (q : ByteArray)
    (hs : a.eval s = v) (hx : a.eval x = .slice (some ⟨w.heap.size, 0, none⟩) 1 1) (hown : OwnF strF w lo v xs) (hlen : xs.length ≤ 1073741824) (hq : q.size ≤ maxLen) (hlo : lo ≤ w.heap.size)
    (h : ∀ A' c' w', OwnF strF w' lo (.slice A' (xs.length + 1) c') (xs ++ [q]) → w.grownBy w' v.ownBlock → wpList P ops Q rest (a.put o.dst (.slice A' (xs.length + 1) c')) w') :
    wpList P ops Q (o :: rest) a (w.alloc (.cells #[.string q] 9)) := by
  obtain ⟨i0, hi, hz0, hz1, hz2⟩ := info_parts hinfo
  refine wpList_append_own _ hgd s x T ho lo 9 i0 (.string ⟨#[]⟩) 1 16 ht hi hz0 hz1 hz2 rfl (by decide) v xs.length _ hs (hown.alloc _).1 ⟨w.heap.size, 0, none⟩ 1 1 [.string q] hx rfl ?_ ?_ ?_ ?_ ?_ ?_
  · intro j u hj
    match j, hj with
    | 0, hj =>
      simp at hj; subst hj
      rw [show (⟨w.heap.size, 0, none⟩ : Addr).add 0 = ⟨w.heap.size, 0, none⟩ from rfl, (Blk.new w #[.string q] _).cell]; rfl
  · intro u hu; simp at hu; subst hu; rfl
  · unfold maxLen; omega
  · omega
  · simp; omega
  · intro v' w' ho' hg' _
    have hO : OwnF strF w' lo v' (xs ++ [q]) := ⟨by
      rw [strF_flat] at ho' ⊢
      show w'.ownsRow lo 9 1 v' _ _
      simpa using ho', fun y hy => by
      rcases List.mem_append.1 hy with hy | hy
      · exact hown.2 y hy
      · simp at hy; subst hy; exact hq⟩
    obtain ⟨A', c', rfl, _, _⟩ := hO.form
    rw [List.length_append] at hO
    have := h A' c' w' hO ⟨hg'.os, hg'.tape, hg'.output, Nat.le_trans (by simp) hg'.size, fun k hk hne => (hg'.block k (by simp; omega) hne).trans (Below.heap_alloc w _ k hk)⟩
    rwa [List.length_append]
end Go.Proofs.Ytihhlldpdfihfaa
