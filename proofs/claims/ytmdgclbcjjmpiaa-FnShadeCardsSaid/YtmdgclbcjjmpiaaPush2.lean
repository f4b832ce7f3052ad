/- append of a row of three numbers to rows of the call's own, and a slice's rest, as steps of a walk. Condition: few rows. -/
import Derived.Test.YtmdgclbcjjmpiaaOwn2
import Derived.Test.YtmdgclbcjjmpiaaShadeData
namespace Go.Proofs.Ytmdgclbcjjmpiaa
open Go.RowKit

theorem wp_push3 {P : Program} {o : Oper} {a : Act} {K : Act → World → Prop} {Q : Exit → Act → World → Prop} (w : World) (s x : Operand) (T : TypeId)
    (ho : o.op = .call { callee := .builtin .append, args := #[s, x], argTypes := #[T, T] }) (ht : P.underlying T = some (.slice 48)) (hinfo : (P.info? 48).map (fun i => (i.zero, i.size, i.bytes)) = some (some (.slice none 0 0), 1, 24))
    (lo n : Nat) (v : Value) (yss : List (List Int)) (x1 x2 x3 : Int) (hn : yss.length = n)
    (hs : a.eval s = v) (hx : a.eval x = .slice (some ⟨w.heap.size + 1, 0, none⟩) 1 1) (hown : Own2 w lo v yss) (hlen : n ≤ 1048576) (h1 : I64 x1) (h2 : I64 x2) (h3 : I64 x3) (hlo : lo ≤ w.heap.size)
    (h : ∀ A' c' w', Own2 w' lo (.slice A' (n + 1) c') (yss ++ [[x1, x2, x3]]) → w.grownBy w' v.ownBlock → K (a.put o.dst (.slice A' (n + 1) c')) w') :
    o.wp P a ((w.alloc (.cells #[.int .i64 x1, .int .i64 x2, .int .i64 x3] 3)).alloc (.cells #[.slice (some ⟨w.heap.size, 0, none⟩) 3 3] 48)) K Q := by
  subst hn
  obtain ⟨i0, hi, hz0, hz1, hz2⟩ := info_parts hinfo
  obtain ⟨hs', l1, l2, l3, l4⟩ := hown
  have hrow : Own (w.alloc (.cells #[.int .i64 x1, .int .i64 x2, .int .i64 x3] 3)) lo (.slice (some ⟨w.heap.size, 0, none⟩) 3 3) [x1, x2, x3] :=
    ⟨World.ownsRow_lit w #[.int .i64 x1, .int .i64 x2, .int .i64 x3] 3 hlo (by unfold maxLen; omega) rfl, fun y hy => by
      simp only [List.mem_cons, List.not_mem_nil, or_false] at hy
      rcases hy with rfl | rfl | rfl <;> assumption⟩
  have hrow2 := hrow.alloc (.cells #[.slice (some ⟨w.heap.size, 0, none⟩) 3 3] 48)
  have hb2 : Below w.heap.size w ((w.alloc (.cells #[.int .i64 x1, .int .i64 x2, .int .i64 x3] 3)).alloc (.cells #[.slice (some ⟨w.heap.size, 0, none⟩) 3 3] 48)) :=
    ((Below.refl _ _).alloc (Nat.le_refl _) _).alloc (by simp) _
  have hlt := l2.lt
  have l2' := row_all' l2 hb2
  have hsz := hb2.size
  refine wp_append_own _ s x T ho lo 48 i0 (.slice none 0 0) 1 24 ht hi hz0 hz1 hz2 rfl (by decide) v yss.length _ hs l2' ⟨w.heap.size + 1, 0, none⟩ 1 1 [.slice (some ⟨w.heap.size, 0, none⟩) 3 3] hx rfl ?_ ?_ ?_ ?_ ?_ ?_
  · intro j u hj
    match j, hj with
    | 0, hj =>
      simp at hj; subst hj
      exact ((Blk.new (w.alloc (.cells #[.int .i64 x1, .int .i64 x2, .int .i64 x3] 3)) #[.slice (some ⟨w.heap.size, 0, none⟩) 3 3] 48).at_ (q := w.heap.size + 1) (by simp)).cell 0
  · intro u hu; simp at hu; subst hu; rfl
  · unfold maxLen; omega
  · omega
  · omega
  · intro v' w' ho' hg' _
    have hO : Own2 w' lo v' (yss ++ [[x1, x2, x3]]) := Own2.push l1 l2' (fun i h ys hi hy => (l3 i h ys hi hy).all hb2) l4 hrow2 (fun i h hi k hk => by
      intro e
      have hk' := ((l3 i h _ hi (List.getElem?_eq_getElem (by have := (List.getElem?_eq_some_iff.1 hi).1; omega))).1.lt k hk).2
      have : w.heap.size = k := by simpa [Value.ownBlock] using e
      omega) hg' ho'
    obtain ⟨A', c', rfl, _⟩ := hO.form
    rw [List.length_append] at hO
    have := h A' c' w' hO ⟨hg'.os.trans hb2.os, hg'.tape.trans hb2.tape, hg'.output.trans hb2.output, Nat.le_trans hsz hg'.size, fun k hk hne => (hg'.block k (by omega) hne).trans (hb2.block k hk)⟩
    rwa [List.length_append]
theorem wpList_push3 {P : Program} {ops : Array Oper} {rest : List Oper} {o : Oper} {a : Act} {Q : Exit → Act → World → Prop} (hgd : o.guard = none) (w : World) (s x : Operand) (T : TypeId)
    (ho : o.op = .call { callee := .builtin .append, args := #[s, x], argTypes := #[T, T] }) (ht : P.underlying T = some (.slice 48)) (hinfo : (P.info? 48).map (fun i => (i.zero, i.size, i.bytes)) = some (some (.slice none 0 0), 1, 24))
    (lo n : Nat) (v : Value) (yss : List (List Int)) (x1 x2 x3 : Int) (hn : yss.length = n)
    (hs : a.eval s = v) (hx : a.eval x = .slice (some ⟨w.heap.size + 1, 0, none⟩) 1 1) (hown : Own2 w lo v yss) (hlen : n ≤ 1048576) (h1 : I64 x1) (h2 : I64 x2) (h3 : I64 x3) (hlo : lo ≤ w.heap.size)
    (h : ∀ A' c' w', Own2 w' lo (.slice A' (n + 1) c') (yss ++ [[x1, x2, x3]]) → w.grownBy w' v.ownBlock → wpList P ops Q rest (a.put o.dst (.slice A' (n + 1) c')) w') :
    wpList P ops Q (o :: rest) a ((w.alloc (.cells #[.int .i64 x1, .int .i64 x2, .int .i64 x3] 3)).alloc (.cells #[.slice (some ⟨w.heap.size, 0, none⟩) 3 3] 48)) :=
  wpList_plain hgd fun _ hK => wp_push3 w s x T ho ht hinfo lo n v yss x1 x2 x3 hn hs hx hown hlen h1 h2 h3 hlo fun A' c' w' h5 h6 => hK _ _ (h A' c' w' h5 h6)
theorem step_push3 {P : Program} {ops : Array Oper} {o : Oper} {a : Act} {K : Act → World → Prop} {Q : Exit → Act → World → Prop} {E : Prop} (w : World) (hgd : o.guard = none) (s x : Operand) (T : TypeId)
    (ho : o.op = .call { callee := .builtin .append, args := #[s, x], argTypes := #[T, T] }) (ht : P.underlying T = some (.slice 48)) (hinfo : (P.info? 48).map (fun i => (i.zero, i.size, i.bytes)) = some (some (.slice none 0 0), 1, 24))
    (lo n : Nat) (v : Value) (yss : List (List Int)) (x1 x2 x3 : Int) (hn : yss.length = n)
    (hs : a.eval s = v) (hx : a.eval x = .slice (some ⟨w.heap.size + 1, 0, none⟩) 1 1) (hown : Own2 w lo v yss) (hlen : n ≤ 1048576) (h1 : I64 x1) (h2 : I64 x2) (h3 : I64 x3) (hlo : lo ≤ w.heap.size)
    (h : ∀ A' c' w', Own2 w' lo (.slice A' (n + 1) c') (yss ++ [[x1, x2, x3]]) → w.grownBy w' v.ownBlock → K (a.put o.dst (.slice A' (n + 1) c')) w') :
    if Region.wanted o (yielded ops a.tmps) = true then Oper.wp P o a ((w.alloc (.cells #[.int .i64 x1, .int .i64 x2, .int .i64 x3] 3)).alloc (.cells #[.slice (some ⟨w.heap.size, 0, none⟩) 3 3] 48)) K Q else E := by
  rw [if_pos (show Region.wanted o (yielded ops a.tmps) = true by simp [Region.wanted, hgd])]
  exact wp_push3 w s x T ho ht hinfo lo n v yss x1 x2 x3 hn hs hx hown hlen h1 h2 h3 hlo h
end Go.Proofs.Ytmdgclbcjjmpiaa
