/- A slice of numbers cut at its start; append of one element to a row of its own. No condition. -/
import Derived.Test.YtihhlldpdfihfaaAppF
namespace Go.Proofs.Ytihhlldpdfihfaa
open Go.RowKit

theorem Rd.cut {w : World} {B n c b off q : Nat} {xs : List Int} (h : Rd w B (some ⟨b, off, none⟩) n c xs) (hq : q ≤ n) : Rd w B (some ⟨b, if c = q then off else off + q * 1, none⟩) (n - q) (c - q) (xs.drop q) := by
  refine ⟨by rw [List.length_drop, h.len], by have := h.cap; omega, by have := h.max; omega, fun hn => ?_, fun x hx => h.fits x (List.mem_of_mem_drop hx), fun e => by cases e⟩
  obtain ⟨_, _, e, hb, hc⟩ := h.cells (by omega)
  cases e
  have := h.cap
  rw [if_neg (by omega)]
  refine ⟨b, _, rfl, hb, fun j hj => ?_⟩
  have := hc (q + j) (by omega)
  rw [show off + q * 1 + j = off + (q + j) by omega, this, List.getD_eq_getElem?_getD, List.getD_eq_getElem?_getD, List.getElem?_drop]
set_option maxRecDepth 100000 in
theorem wpList_restI {ops : Array Oper} {rest : List Oper} {o : Oper} {a : Act} {w : World} {Q : Exit → Act → World → Prop} (hgd : o.guard = none) (x lo : Operand)
    (ho : o.op = .slice 29 x (some lo) none none) (b off : Nat) (B n c q : Nat) (xs : List Int) (i : Int) (hx : a.eval x = .slice (some ⟨b, off, none⟩) n c) (hl : a.eval lo = .int .i64 i) (hi : i = (q : Int)) (hq : q ≤ n) (h : Rd w B (some ⟨b, off, none⟩) n c xs)
    (hk : ∀ off', Rd w B (some ⟨b, off', none⟩) (n - q) (c - q) (xs.drop q) → wpList Try.prog ops Q rest (a.put o.dst (.slice (some ⟨b, off', none⟩) (n - q) (c - q))) w) : wpList Try.prog ops Q (o :: rest) a w := by
  subst hi
  refine wpList_plain hgd fun K hK => ?_
  have hcap := h.cap
  have hc := h.cut hq
  have hr : (Instr.sliceAt 29 (.slice (some ⟨b, off, none⟩) n c) (some (.int .i64 q)) none none).run Try.prog w = .ok (.slice (some ⟨b, if c = q then off else off + q * 1, none⟩) (n - q) (c - q)) w := by
    rw [run_sliceAt_slice _ _ _ _ _ _ Try.underlying29, run_slice_l _ _ _ _ _ Try.underlying29 _ _ (by omega) (by omega)]
    simp [go_sem]
    split <;> rfl
  unfold Oper.wp execOp
  simp only [ho, Option.map_some, Option.map_none, hx, hl, Sem.run_bind, Sem.run_pure, hr, Result.andThen_ok]
  exact hK _ _ (hk _ hc)
/-- append of one element, its literal made last. -/
theorem wpList_pushF {α : Type} (F : Flat α) {P : Program} {ops : Array Oper} {rest : List Oper} {o : Oper} {a : Act} {Q : Exit → Act → World → Prop} (hgd : o.guard = none) (w : World) (s x : Operand) (T : TypeId) (z : Value) (bytes : Nat)
    (ho : o.op = .call { callee := .builtin .append, args := #[s, x], argTypes := #[T, T] }) (ht : P.underlying T = some (.slice F.t)) (hinfo : (P.info? F.t).map (fun i => (i.zero, i.size, i.bytes)) = some (some z, F.k, bytes))
    (hzs : z.cells.size = F.k) (hk : 0 < F.k) (hby : bytes ≤ 1024)
    (lo n : Nat) (v : Value) (xs : List α) (y : α) (cs : Array Value) (he : cs.toList = F.enc y) (hy : F.ok y) (hn : xs.length = n)
    (hs : a.eval s = v) (hx : a.eval x = .slice (some ⟨w.heap.size, 0, none⟩) 1 1) (hown : OwnF F w lo v xs) (hlen : n ≤ 1073741000) (hlo : lo ≤ w.heap.size)
    (h : ∀ A' c' w', OwnF F w' lo (.slice A' (n + 1) c') (xs ++ [y]) → w.grownBy w' v.ownBlock → wpList P ops Q rest (a.put o.dst (.slice A' (n + 1) c')) w') :
    wpList P ops Q (o :: rest) a (w.alloc (.cells cs F.t)) := by
  subst hn
  refine wpList_appendF F hgd _ s x T z bytes ho ht hinfo hzs hk hby lo v xs [y] w.heap.size 0 1 1 (w.heap.size + 1) hs hx (hown.alloc _) (RdF.lit he hy) (by simp; omega) (by simp; omega) fun A' c' w' h1 h2 => ?_
  rw [show xs.length + [y].length = xs.length + 1 from rfl] at h1 ⊢
  exact h A' c' w' h1 ⟨h2.os, h2.tape, h2.output, Nat.le_trans (by simp) h2.size, fun k hk hne => (h2.block k (by simp; omega) hne).trans (Below.heap_alloc w _ k hk)⟩
end Go.Proofs.Ytihhlldpdfihfaa
