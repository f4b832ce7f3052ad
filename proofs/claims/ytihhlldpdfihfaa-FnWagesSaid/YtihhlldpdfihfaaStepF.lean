/- append of a list of elements to a row of its own, as a step of a drawn region. No condition. -/
import Derived.Test.YtihhlldpdfihfaaAppF
import Derived.Deep.RegionHeld3
namespace Go.Proofs.Ytihhlldpdfihfaa
open Go.RowKit

theorem step_appendF {α : Type} (F : Flat α) {P : Program} {ops : Array Oper} {o : Oper} {a : Act} {K : Act → World → Prop} {Q : Exit → Act → World → Prop} {E : Prop} (hgd : o.guard = none) (w : World) (s x : Operand) (T : TypeId) (z : Value) (bytes : Nat)
    (ho : o.op = .call { callee := .builtin .append, args := #[s, x], argTypes := #[T, T] }) (ht : P.underlying T = some (.slice F.t)) (hinfo : (P.info? F.t).map (fun i => (i.zero, i.size, i.bytes)) = some (some z, F.k, bytes))
    (hzs : z.cells.size = F.k) (hk : 0 < F.k) (hby : bytes ≤ 1024)
    (lo : Nat) (v : Value) (xs ys : List α) (b off m c B : Nat)
    (hs : a.eval s = v) (hx : a.eval x = .slice (some ⟨b, off, none⟩) m c) (hown : OwnF F w lo v xs) (hy : RdF F w B (some ⟨b, off, none⟩) m c ys) (hlen : xs.length + ys.length ≤ 1073741824) (hlo : lo ≤ w.heap.size)
    (h : ∀ A' c' w', OwnF F w' lo (.slice A' (xs.length + ys.length) c') (xs ++ ys) → w.grownBy w' v.ownBlock → K (a.put o.dst (.slice A' (xs.length + ys.length) c')) w') :
    if Region.wanted o (yielded ops a.tmps) = true then Oper.wp P o a w K Q else E := by
  rw [if_pos (show Region.wanted o (yielded ops a.tmps) = true by simp [Region.wanted, hgd])]
  exact wp_appendF F w s x T z bytes ho ht hinfo hzs hk hby lo v xs ys b off m c B hs hx hown hy hlen hlo h
end Go.Proofs.Ytihhlldpdfihfaa
