/- append of one number to a slice of the call's own, telling where the new one lies. No condition. -/
import Derived.Test.YtpnmnkdnlajfiaaMem
import Derived.Maps.AppendAt
namespace Go.Proofs.Ytpnmnkdnlajfiaa
open Go.RowKit

theorem wpList_append_one_at {P : Program} {ops : Array Oper} {rest : List Oper} {o : Oper} {a : Act} {Q : Exit → Act → World → Prop} (w : World) (hgd : o.guard = none) (s x : Operand) (T : TypeId)
    (ho : o.op = .call { callee := .builtin .append, args := #[s, x], argTypes := #[T, T] }) (ht : P.underlying T = some (.slice 3)) (hinfo : (P.info? 3).map (fun i => (i.zero, i.size, i.bytes)) = some (some (.int .i64 0), 1, 8))
    (lo n : Nat) (v : Value) (xs : List Int) (q : Int) (hn : xs.length = n)
    (hs : a.eval s = v) (hx : a.eval x = .slice (some ⟨w.heap.size, 0, none⟩) 1 1) (hown : Own w lo v xs) (hlen : n ≤ 1073741824) (hq : I64 q) (hlo : lo ≤ w.heap.size)
    (h : ∀ A' c' w', Own w' lo (.slice A' (n + 1) c') (xs ++ [q]) → w.grownBy w' v.ownBlock → (∀ j, (Value.slice A' (n + 1) c').ownBlock = some j → v.ownBlock = some j ∨ w.heap.size ≤ j) → wpList P ops Q rest (a.put o.dst (.slice A' (n + 1) c')) w') :
    wpList P ops Q (o :: rest) a (w.alloc (.cells #[.int .i64 q] 3)) := by
  subst hn
  obtain ⟨i0, hi, hz0, hz1, hz2⟩ := info_parts hinfo
  refine wpList_append_own_at (w.alloc (.cells #[.int .i64 q] 3)) hgd s x T ho lo 3 i0 (.int .i64 0) 1 8 ht hi hz0 hz1 hz2 rfl (by decide) v xs.length _ hs (hown.alloc _).1 ⟨w.heap.size, 0, none⟩ 1 1 [.int .i64 q] hx rfl ?_ ?_ ?_ ?_ ?_ ?_
  · intro j u hj
    match j, hj with
    | 0, hj =>
      simp at hj; subst hj
      rw [show (⟨w.heap.size, 0, none⟩ : Addr).add 0 = ⟨w.heap.size, 0, none⟩ from rfl, (Blk.new w #[.int .i64 q] _).cell]; rfl
  · intro u hu; simp at hu; subst hu; rfl
  · unfold maxLen; omega
  · omega
  · simp; omega
  · intro v' w' ho' hg' _ hat
    have hO : Own w' lo v' (xs ++ [q]) := ⟨by simpa using ho', fun y hy => by
      rcases List.mem_append.1 hy with hy | hy
      · exact hown.2 y hy
      · simp at hy; subst hy; exact hq⟩
    obtain ⟨A', c', rfl, _, _⟩ := hO.form
    rw [List.length_append] at hO
    have := h A' c' w' hO ⟨hg'.os, hg'.tape, hg'.output, Nat.le_trans (by simp) hg'.size, fun k hk hne => (hg'.block k (by simp; omega) hne).trans (Below.heap_alloc w _ k hk)⟩ (fun j hj => by
      rw [List.length_append] at hat
      rcases hat with e | e
      · exact .inl (e ▸ hj)
      · have e2 : some j = some (w.alloc (.cells #[.int .i64 q] 3)).heap.size := hj.symm.trans e
        injection e2 with e2
        exact .inr (by rw [e2]; simp))
    rwa [List.length_append]
end Go.Proofs.Ytpnmnkdnlajfiaa
