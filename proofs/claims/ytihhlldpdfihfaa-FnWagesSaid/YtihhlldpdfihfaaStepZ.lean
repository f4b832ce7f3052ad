/- append of one number onto a slice that is the call's own or an empty literal without room. No condition. -/
import Derived.Test.YtihhlldpdfihfaaStep
import Derived.Lib.SlFresh
namespace Go.Proofs.Ytihhlldpdfihfaa
open Go.RowKit

theorem wp_append_zero {P : Program} {o : Oper} {a : Act} {K : Act → World → Prop} {Q : Exit → Act → World → Prop} (w : World) (s x : Operand) (T : TypeId)
    (ho : o.op = .call { callee := .builtin .append, args := #[s, x], argTypes := #[T, T] }) (ht : P.underlying T = some (.slice 3)) (hinfo : (P.info? 3).map (fun i => (i.zero, i.size, i.bytes)) = some (some (.int .i64 0), 1, 8))
    (b0 : Addr) (q : Int) (hs : a.eval s = .slice (some b0) 0 0) (hx : a.eval x = .slice (some ⟨w.heap.size, 0, none⟩) 1 1) (hq : I64 q)
    (h : ∀ A' c' w', Own w' w.heap.size (.slice A' 1 c') [q] → w.grownBy w' none → K (a.put o.dst (.slice A' 1 c')) w') :
    o.wp P a (w.alloc (.cells #[.int .i64 q] 3)) K Q := by
  obtain ⟨i0, hi, hz0, hz1, hz2⟩ := info_parts hinfo
  have hr := run_append_grow (P := P) (w := w.alloc (.cells #[.int .i64 q] 3)) T o.type 3 i0 (.int .i64 0) ht hi hz0 b0 0 0 [] (by simp) (by intro j v hj; simp at hj) ⟨w.heap.size, 0, none⟩ 1 1 [.int .i64 q] (by rw [hz1]; rfl)
    (by
      intro j u hj
      match j, hj with
      | 0, hj =>
        simp at hj; subst hj
        exact (Blk.new w #[.int .i64 q] 3).cell 0) (by omega) (by omega) (growslice_fits (by omega) (by rw [hz2]; omega))
  simp only [Nat.zero_add] at hr
  have hge := grownCap_ge (w.alloc (.cells #[.int .i64 q] 3)) 1 0 3
  have hcm : grownCap (w.alloc (.cells #[.int .i64 q] 3)) 1 0 3 ≤ maxLen := grownCap_le_maxLen _ 1 0 3 (by unfold maxLen; omega)
  generalize grownCap (w.alloc (.cells #[.int .i64 q] 3)) 1 0 3 = cap at hr hge hcm
  refine Lib.wp_append_run_sl _ s x T ho _ _ hs hx hr (h _ _ _ ⟨⟨by simp, .inr ⟨_, cap, _, rfl, by simp, heap_alloc_new _ _, hge, hcm, ?_, ?_⟩⟩, fun y hy => ?_⟩ ⟨rfl, rfl, rfl, by simp; omega, fun k hk _ => ?_⟩)
  · simp [size_zeroCells, Value.cells]; omega
  · simp [Value.cells]
  · simp at hy; subst hy; exact hq
  · have := Below.heap_alloc w (.cells #[.int .i64 q] 3) k hk
    rw [← this]
    exact heap_alloc_old (w.alloc (.cells #[.int .i64 q] 3)).drew _ (by simp; omega)
/-- A slice of the call's own, at lo or above, or an empty literal without room. -/
def OwnZ (w : World) (lo0 lo : Nat) (v : Value) (xs : List Int) : Prop := Own w lo0 v xs ∧ (Own w lo v xs ∨ (∃ b0, v = .slice (some b0) 0 0) ∧ xs = [])
theorem OwnZ.all {w w' : World} {lo0 lo : Nat} {v : Value} {xs : List Int} (h : OwnZ w lo0 lo v xs) (hb : Below w.heap.size w w') : OwnZ w' lo0 lo v xs := ⟨h.1.all hb, h.2.imp (fun o => o.all hb) id⟩
theorem OwnZ.drewN {w : World} {lo0 lo : Nat} {v : Value} {xs : List Int} (h : OwnZ w lo0 lo v xs) (k : Nat) : OwnZ (w.drewN k) lo0 lo v xs := ⟨h.1.drewN k, h.2.imp (fun o => o.drewN k) id⟩
theorem OwnZ.zero {w : World} {lo0 lo g : Nat} (h : Own w lo0 (.slice (some ⟨g, 0, none⟩) 0 0) []) : OwnZ w lo0 lo (.slice (some ⟨g, 0, none⟩) 0 0) [] := ⟨h, .inr ⟨⟨_, rfl⟩, rfl⟩⟩
theorem wp_append_z {P : Program} {o : Oper} {a : Act} {K : Act → World → Prop} {Q : Exit → Act → World → Prop} (w : World) (s x : Operand) (T : TypeId)
    (ho : o.op = .call { callee := .builtin .append, args := #[s, x], argTypes := #[T, T] }) (ht : P.underlying T = some (.slice 3)) (hinfo : (P.info? 3).map (fun i => (i.zero, i.size, i.bytes)) = some (some (.int .i64 0), 1, 8))
    (lo0 lo n : Nat) (v : Value) (xs : List Int) (q : Int) (hn : xs.length = n)
    (hs : a.eval s = v) (hx : a.eval x = .slice (some ⟨w.heap.size, 0, none⟩) 1 1) (hown : OwnZ w lo0 lo v xs) (hlen : n ≤ 1073741824) (hq : I64 q) (hl0 : lo0 ≤ lo) (hlo : lo ≤ w.heap.size)
    (h : ∀ A' c' w' row, OwnZ w' lo0 lo (.slice A' (n + 1) c') (xs ++ [q]) → (∀ k, row = some k → lo ≤ k) → w.grownBy w' row → K (a.put o.dst (.slice A' (n + 1) c')) w') :
    o.wp P a (w.alloc (.cells #[.int .i64 q] 3)) K Q := by
  rcases hown.2 with ho1 | ⟨⟨b0, hb0⟩, hnil⟩
  · exact wp_append_one w s x T ho ht hinfo lo n v xs q hn hs hx ho1 hlen hq hlo (fun A' c' w' o1 g1 => h A' c' w' _ ⟨o1.mono hl0, .inl o1⟩ (fun k hk => (ho1.bd k hk).1) g1)
  · subst hnil
    subst hn
    exact wp_append_zero w s x T ho ht hinfo b0 q (hs.trans hb0) hx hq (fun A' c' w' o1 g1 => h A' c' w' none ⟨o1.mono (by omega), .inl (o1.mono hlo)⟩ (fun k hk => by cases hk) g1)
theorem step_append_z {P : Program} {ops : Array Oper} {o : Oper} {a : Act} {K : Act → World → Prop} {Q : Exit → Act → World → Prop} {E : Prop} (w : World) (hgd : o.guard = none) (s x : Operand) (T : TypeId)
    (ho : o.op = .call { callee := .builtin .append, args := #[s, x], argTypes := #[T, T] }) (ht : P.underlying T = some (.slice 3)) (hinfo : (P.info? 3).map (fun i => (i.zero, i.size, i.bytes)) = some (some (.int .i64 0), 1, 8))
    (lo0 lo n : Nat) (v : Value) (xs : List Int) (q : Int) (hn : xs.length = n)
    (hs : a.eval s = v) (hx : a.eval x = .slice (some ⟨w.heap.size, 0, none⟩) 1 1) (hown : OwnZ w lo0 lo v xs) (hlen : n ≤ 1073741824) (hq : I64 q) (hl0 : lo0 ≤ lo) (hlo : lo ≤ w.heap.size)
    (h : ∀ A' c' w' row, OwnZ w' lo0 lo (.slice A' (n + 1) c') (xs ++ [q]) → (∀ k, row = some k → lo ≤ k) → w.grownBy w' row → K (a.put o.dst (.slice A' (n + 1) c')) w') :
    if Region.wanted o (yielded ops a.tmps) = true then Oper.wp P o a (w.alloc (.cells #[.int .i64 q] 3)) K Q else E := by
  rw [if_pos (show Region.wanted o (yielded ops a.tmps) = true by simp [Region.wanted, hgd])]
  exact wp_append_z w s x T ho ht hinfo lo0 lo n v xs q hn hs hx hown hlen hq hl0 hlo h
theorem wpList_append_z {P : Program} {ops : Array Oper} {rest : List Oper} {o : Oper} {a : Act} {Q : Exit → Act → World → Prop} (w : World) (hgd : o.guard = none) (s x : Operand) (T : TypeId)
    (ho : o.op = .call { callee := .builtin .append, args := #[s, x], argTypes := #[T, T] }) (ht : P.underlying T = some (.slice 3)) (hinfo : (P.info? 3).map (fun i => (i.zero, i.size, i.bytes)) = some (some (.int .i64 0), 1, 8))
    (lo0 lo n : Nat) (v : Value) (xs : List Int) (q : Int) (hn : xs.length = n)
    (hs : a.eval s = v) (hx : a.eval x = .slice (some ⟨w.heap.size, 0, none⟩) 1 1) (hown : OwnZ w lo0 lo v xs) (hlen : n ≤ 1073741824) (hq : I64 q) (hl0 : lo0 ≤ lo) (hlo : lo ≤ w.heap.size)
    (h : ∀ A' c' w' row, OwnZ w' lo0 lo (.slice A' (n + 1) c') (xs ++ [q]) → (∀ k, row = some k → lo ≤ k) → w.grownBy w' row → wpList P ops Q rest (a.put o.dst (.slice A' (n + 1) c')) w') :
    wpList P ops Q (o :: rest) a (w.alloc (.cells #[.int .i64 q] 3)) :=
  wpList_plain hgd fun _ hK => wp_append_z w s x T ho ht hinfo lo0 lo n v xs q hn hs hx hown hlen hq hl0 hlo (fun A' c' w' row h1 h2 h3 => hK _ _ (h A' c' w' row h1 h2 h3))
end Go.Proofs.Ytihhlldpdfihfaa
