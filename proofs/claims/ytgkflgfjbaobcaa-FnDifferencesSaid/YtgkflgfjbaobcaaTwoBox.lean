/- What stays as it was while two charts are worked on: their boxes, their knots, all that is older. No condition. -/
import Derived.Test.YtgkflgfjbaobcaaShiftMath
import Derived.Test.YtgkflgfjbaobcaaAppAt
import Derived.Test.YtgkflgfjbaobcaaAppF
import Derived.Test.YtgkflgfjbaobcaaKnot
import Derived.StillTailTactics
import Derived.Deep.CutRange
import Derived.BigQuiet
import Derived.OwnWalk
namespace Go.Proofs.Ytgkflgfjbaobcaa
open Go.RowKit

abbrev chB (m k b off n c : Nat) : Obj := .cells #[.int .i64 m, .int .i64 k, .slice (some ⟨b, off, none⟩) n c] 26
structure C2 (w : World) (m k b off c : Nat) (xs : List Int) (pm pk b' off' c' : Nat) (ys : List Int) (wr : World) : Prop where
  x : Blk wr w.heap.size 26 #[.int .i64 m, .int .i64 k, .slice (some ⟨b, off, none⟩) xs.length c]
  y : Blk wr (w.heap.size + 1) 26 #[.int .i64 pm, .int .i64 pk, .slice (some ⟨b', off', none⟩) ys.length c']
  r : Rd wr w.heap.size (some ⟨b, off, none⟩) xs.length c xs
  s : Rd wr w.heap.size (some ⟨b', off', none⟩) ys.length c' ys
  bel : Below w.heap.size w wr
section
variable {w wr w' : World} {m k b off c pm pk b' off' c' : Nat} {xs ys : List Int}
theorem C2.start (h : Rd w w.heap.size (some ⟨b, off, none⟩) xs.length c xs) (h' : Rd w w.heap.size (some ⟨b', off', none⟩) ys.length c' ys) :
    C2 w m k b off c xs pm pk b' off' c' ys ((w.alloc (chB m k b off xs.length c)).alloc (chB pm pk b' off' ys.length c')) :=
  ⟨(Blk.new w _ _).alloc _, (Blk.new (w.alloc (chB m k b off xs.length c)) _ _).at_ (by simp), (h.alloc (Nat.le_refl _) _).alloc (by simp) _, (h'.alloc (Nat.le_refl _) _).alloc (by simp) _, ((Below.refl _ _).alloc (Nat.le_refl _) _).alloc (by simp) _⟩
theorem C2.sz (h : C2 w m k b off c xs pm pk b' off' c' ys wr) : w.heap.size + 2 ≤ wr.heap.size := h.y.lt
theorem C2.all (h : C2 w m k b off c xs pm pk b' off' c' ys wr) (hb : Below wr.heap.size wr w') : C2 w m k b off c xs pm pk b' off' c' ys w' :=
  ⟨h.x.all hb, h.y.all hb, h.r.all hb (by have := h.sz; omega), h.s.all hb (by have := h.sz; omega), h.bel.trans (hb.mono (by have := h.sz; omega))⟩
theorem C2.drewN (h : C2 w m k b off c xs pm pk b' off' c' ys wr) (q : Nat) : C2 w m k b off c xs pm pk b' off' c' ys (wr.drewN q) := ⟨h.x, h.y, h.r.drewN q, h.s.drewN q, belowN h.bel q⟩
theorem C2.drew (h : C2 w m k b off c xs pm pk b' off' c' ys wr) : C2 w m k b off c xs pm pk b' off' c' ys wr.drew := h.all (low_drewN wr 1)
theorem C2.alloc (h : C2 w m k b off c xs pm pk b' off' c' ys wr) (o : Obj) : C2 w m k b off c xs pm pk b' off' c' ys (wr.alloc o) := h.all ((Below.refl _ _).alloc (Nat.le_refl _) o)
theorem C2.mark (h : C2 w m k b off c xs pm pk b' off' c' ys wr) {row : Option Nat} (hg : wr.grownBy w' row) (hr : ∀ q, row = some q → w.heap.size + 2 ≤ q) : C2 w m k b off c xs pm pk b' off' c' ys w' :=
  ⟨h.x.mark hg (fun q hq e => by have := hr q hq; omega), h.y.mark hg (fun q hq e => by have := hr q hq; omega), h.r.mark hg (fun q hq => by have := hr q hq; omega) (by have := h.sz; omega), h.s.mark hg (fun q hq => by have := hr q hq; omega) (by have := h.sz; omega),
    h.bel.grown hg (by have := h.sz; omega) (fun q hq => by have := hr q hq; omega)⟩
theorem C2.a0 (h : C2 w m k b off c xs pm pk b' off' c' ys wr) : wr.cell? ⟨w.heap.size, 0, none⟩ = some (.int .i64 m) := h.x.cell 0
theorem C2.a1 (h : C2 w m k b off c xs pm pk b' off' c' ys wr) : wr.cell? ⟨w.heap.size, 1, none⟩ = some (.int .i64 k) := h.x.cell 1
theorem C2.a2 (h : C2 w m k b off c xs pm pk b' off' c' ys wr) : wr.cell? ⟨w.heap.size, 2, none⟩ = some (.slice (some ⟨b, off, none⟩) xs.length c) := h.x.cell 2
theorem C2.d0 (h : C2 w m k b off c xs pm pk b' off' c' ys wr) : wr.cell? ⟨w.heap.size + 1, 0, none⟩ = some (.int .i64 pm) := h.y.cell 0
theorem C2.d1 (h : C2 w m k b off c xs pm pk b' off' c' ys wr) : wr.cell? ⟨w.heap.size + 1, 1, none⟩ = some (.int .i64 pk) := h.y.cell 1
theorem C2.d2 (h : C2 w m k b off c xs pm pk b' off' c' ys wr) : wr.cell? ⟨w.heap.size + 1, 2, none⟩ = some (.slice (some ⟨b', off', none⟩) ys.length c') := h.y.cell 2
theorem rd_knot {B : Nat} (h : Rd wr B (some ⟨b, off, none⟩) xs.length c xs) {p : Nat} {v : Int} (hx : p < xs.length) (hv : xs.getD p 0 = v) : wr.cell? ⟨b, off + p, none⟩ = some (.int .i64 v) := by
  obtain ⟨b', off', y, e, _, hc, _, _, HY⟩ := h.at hx
  cases e
  rw [hc, ← hv, HY.out]
end
/-- A valid chart, opened. -/
theorem good_openT {W H : Int} {A : Option Addr} {n c B : Nat} {xs : List Int} {w : World} (hg : goodB W H xs = true) (h : Rd w B A n c xs) :
    ∃ m k b off : Nat, W = m ∧ H = k ∧ A = some ⟨b, off, none⟩ ∧ n = xs.length ∧ 1 ≤ m ∧ m ≤ 8 ∧ 1 ≤ k ∧ k ≤ 8 ∧ Hid (xs.length = m * k) ∧ xs.length ≤ 64 ∧ 1 ≤ xs.length ∧ ∀ x ∈ xs, 0 ≤ x ∧ x < 6 := by
  obtain ⟨m, k, rfl, rfl, m1, m8, k1, k8, hl, h64, hl1, hx⟩ := good_nat hg
  obtain rfl := h.len
  obtain ⟨b, off, rfl, _, _⟩ := h.cells (by omega)
  exact ⟨m, k, b, off, rfl, rfl, rfl, rfl, m1, m8, k1, k8, hl, h64, hl1, hx⟩
theorem below_mark {B : Nat} {a w w' : World} {row : Option Nat} (h : Below B a w) (hg : w.grownBy w' row) (hB : B ≤ w.heap.size) (hr : ∀ q, row = some q → B ≤ q) : Below B a w' := h.grown hg hB hr
end Go.Proofs.Ytgkflgfjbaobcaa
