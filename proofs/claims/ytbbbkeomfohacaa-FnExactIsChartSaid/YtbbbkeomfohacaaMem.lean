/- Words for slices of integers: a slice that reads as a list (nil let in), one that the call itself made; what keeps them. No condition. -/
import Derived.Test.YtbbbkeomfohacaaRows
import Derived.WalkKit
import Derived.WalkSpells
import Derived.WalkLawsBesides
import Derived.Lib.Hide
import Derived.Laws.CopyOwn
import Derived.Deep.AppendLies
import Derived.Deep.Draws
import Derived.Deep.QuietTactic
import Derived.BigQuiet
import Derived.Deep.RegionHeld3
namespace Go.Proofs.Ytbbbkeomfohacaa
open Go.RowKit

theorem getD_at {xs : List Int} {j : Nat} (h : j < xs.length) : xs.getD j 0 = xs[j] := by rw [List.getD_eq_getElem?_getD, List.getElem?_eq_getElem h]; rfl
/-- A number that fits. -/
def I64 (x : Int) : Prop := -9223372036854775808 ≤ x ∧ x ≤ 9223372036854775807
/-- The slice (A, n, c) reads as the numbers xs and lies below block B. -/
structure Rd (w : World) (B : Nat) (A : Option Addr) (n c : Nat) (xs : List Int) : Prop where
  len : xs.length = n
  cap : n ≤ c
  max : c ≤ maxLen
  cells : 0 < n → ∃ b off, A = some ⟨b, off, none⟩ ∧ b < B ∧ ∀ j, j < n → w.cell? ⟨b, off + j, none⟩ = some (.int .i64 (xs.getD j 0))
  fits : ∀ x ∈ xs, I64 x

section
variable {w w' : World} {B B' n c : Nat} {A : Option Addr} {xs : List Int}
theorem Rd.keep (h : Rd w B A n c xs) (hk : ∀ b o, b < B → w'.cell? ⟨b, o, none⟩ = w.cell? ⟨b, o, none⟩) : Rd w' B A n c xs :=
  ⟨h.len, h.cap, h.max, fun hn => by
    obtain ⟨b, off, e, hb, hc⟩ := h.cells hn
    exact ⟨b, off, e, hb, fun j hj => (hk _ _ hb).trans (hc j hj)⟩, h.fits⟩
theorem Rd.more (h : Rd w B A n c xs) (hB : B ≤ B') : Rd w B' A n c xs :=
  ⟨h.len, h.cap, h.max, fun hn => by
    obtain ⟨b, off, e, hb, hc⟩ := h.cells hn
    exact ⟨b, off, e, by omega, hc⟩, h.fits⟩
theorem Rd.below (h : Rd w B A n c xs) (hb : Below B' w w') (hB : B ≤ B') : Rd w' B A n c xs := h.keep fun b o hp => hb.cell (p := ⟨b, o, none⟩) (by show b < B'; omega)
theorem Rd.drew (h : Rd w B A n c xs) : Rd w.drew B A n c xs := ⟨h.len, h.cap, h.max, h.cells, h.fits⟩
theorem Rd.drewN (h : Rd w B A n c xs) (k : Nat) : Rd (w.drewN k) B A n c xs := ⟨h.len, h.cap, h.max, h.cells, h.fits⟩
theorem Rd.alloc (h : Rd w B A n c xs) (hB : B ≤ w.heap.size) (o : Obj) : Rd (w.alloc o) B A n c xs := h.keep fun b _ hp => World.cell?_alloc_lt w o ⟨b, _, none⟩ (by show b < _; omega)
theorem Rd.len_lt (h : Rd w B A n c xs) : n ≤ 9223372036854775807 := by have := h.cap; have := h.max; unfold maxLen at this; omega
theorem Rd.at {k : Nat} (h : Rd w B A n c xs) (hk : k < n) : ∃ b off x, A = some ⟨b, off, none⟩ ∧ b < B ∧ w.cell? ⟨b, off + k, none⟩ = some (.int .i64 x) ∧ -9223372036854775808 ≤ x ∧ x ≤ 9223372036854775807 ∧ Hid (xs.getD k 0 = x) := by
  obtain ⟨b, off, e, hb, hc⟩ := h.cells (by omega)
  have hl := h.len
  have hf : I64 (xs.getD k 0) := by rw [getD_at (by omega)]; exact h.fits _ (List.getElem_mem _)
  exact ⟨b, off, xs.getD k 0, e, hb, hc k hk, hf.1, hf.2, rfl⟩
theorem Rd.fit (h : Rd w B A n c xs) (j : Nat) : I64 (xs.getD j 0) := by
  by_cases hj : j < xs.length
  · rw [getD_at hj]; exact h.fits _ (List.getElem_mem hj)
  · rw [List.getD_eq_getElem?_getD, List.getElem?_eq_none (by omega)]; exact ⟨by simp, by simp⟩
end

/-- The slice v holds the numbers xs in a block of its own, from block lo on. -/
def Own (w : World) (lo : Nat) (v : Value) (xs : List Int) : Prop := w.ownsRow lo 3 1 v xs.length (xs.map (Value.int .i64)) ∧ ∀ x ∈ xs, I64 x

section
variable {w w' : World} {lo : Nat} {v : Value} {xs : List Int}
theorem Own.nil (w : World) (lo : Nat) : Own w lo (.slice none 0 0) [] := ⟨World.ownsRow_nil w lo _ _, fun _ h => by simp at h⟩
theorem Own.form (h : Own w lo v xs) : ∃ A c, v = .slice A xs.length c ∧ Rd w w.heap.size A xs.length c xs ∧ (∀ k, v.ownBlock = some k → lo ≤ k ∧ k < w.heap.size) := by
  have hlt := h.1.lt
  obtain ⟨⟨h1, h2⟩, hf⟩ := h
  rcases h2 with ⟨rfl, h0⟩ | ⟨g, cap, cur, rfl, hb, hg, hle, hm, hs, ht⟩
  · exact ⟨none, 0, by rw [h0], ⟨rfl, by omega, by unfold maxLen; omega, fun h => by omega, hf⟩, hlt⟩
  · refine ⟨_, cap, rfl, ⟨rfl, hle, hm, fun hn => ⟨g, 0, rfl, (hlt g rfl).2, fun j hj => ?_⟩, hf⟩, hlt⟩
    have e : cur[j]? = some (.int .i64 (xs.getD j 0)) := by
      rw [← Array.getElem?_toList]
      have : (cur.toList.take (xs.length * 1))[j]? = (xs.map (Value.int .i64))[j]? := by rw [ht]
      rw [List.getElem?_take, if_pos (by omega), List.getElem?_map, List.getElem?_eq_getElem hj] at this
      rw [this, getD_at hj]; rfl
    rw [Nat.zero_add, cell_of_row w g j cur _ (0, 0) hg, e]
theorem Own.kept {row : Option Nat} (h : Own w lo v xs) (hg : w.grownBy w' row) (hne : v.ownBlock = none ∨ v.ownBlock ≠ row) : Own w' lo v xs := ⟨h.1.kept hg hne, h.2⟩
theorem Own.below {B : Nat} (h : Own w lo v xs) (hb : Below B w w') (hB : ∀ k, v.ownBlock = some k → k < B) : Own w' lo v xs := by
  refine ⟨⟨h.1.1, ?_⟩, h.2⟩
  rcases h.1.2 with h0 | ⟨g, cap, cur, rfl, hbb, hg, r⟩
  · exact .inl h0
  · exact .inr ⟨g, cap, cur, rfl, hbb, (hb.block g (hB g rfl)).trans hg, r⟩
theorem Own.all (h : Own w lo v xs) (hb : Below w.heap.size w w') : Own w' lo v xs := h.below hb fun k hk => (h.1.lt k hk).2
theorem Own.more {lo' : Nat} (h : Own w lo v xs) (hl : ∀ k, v.ownBlock = some k → lo' ≤ k) : Own w lo' v xs := by
  refine ⟨⟨h.1.1, ?_⟩, h.2⟩
  rcases h.1.2 with h0 | ⟨g, cap, cur, rfl, hbb, r⟩
  · exact .inl h0
  · exact .inr ⟨g, cap, cur, rfl, hl g rfl, r⟩
theorem Own.mono {lo' : Nat} (h : Own w lo v xs) (hl : lo' ≤ lo) : Own w lo' v xs := h.more fun k hk => Nat.le_trans hl (h.1.lt k hk).1
theorem Own.setLow (h : Own w lo v xs) {p : Addr} (hp : p.block < lo) (u : Value) : Own (w.setCell p u) lo v xs := ⟨ownsRow_setCell_below h.1 hp u, h.2⟩
theorem Own.alloc (h : Own w lo v xs) (o : Obj) : Own (w.alloc o) lo v xs := h.all ((Below.refl _ _).alloc (Nat.le_refl _) o)
theorem Own.drewN (h : Own w lo v xs) (k : Nat) : Own (w.drewN k) lo v xs := ⟨h.1, h.2⟩
end
theorem bcell {W w1 : World} {B : Nat} (hb : Below B W w1) : (∀ b o, b < B → w1.cell? ⟨b, o, none⟩ = W.cell? ⟨b, o, none⟩) ∧ (∀ b o, b < B → w1.frozen? ⟨b, o, none⟩ = W.frozen? ⟨b, o, none⟩) :=
  ⟨fun b o h => hb.cell (p := ⟨b, o, none⟩) h, fun b o h => hb.frozen (p := ⟨b, o, none⟩) h⟩
theorem low_drewN (w : World) (n : Nat) : Below w.heap.size w (w.drewN n) := ⟨rfl, rfl, rfl, Nat.le_refl _, fun _ _ => rfl⟩
/-- Block p holds the cells cs at its head. -/
def Box (w : World) (p : Nat) (cs : List Value) : Prop := p < w.heap.size ∧ ∀ j v, cs[j]? = some v → w.cell? ⟨p, j, none⟩ = some v
section
variable {w w' : World} {p : Nat} {cs : List Value}
theorem Box.new (w : World) (cs : Array Value) (t : TypeId) : Box (w.alloc (.cells cs t)) w.heap.size cs.toList :=
  ⟨by simp, fun j v h => by
    rw [cell_of_row (w.alloc (.cells cs t)) w.heap.size j cs t (0, 0) (heap_alloc_new w _)]
    simpa using h⟩
theorem Box.below {B : Nat} (h : Box w p cs) (hb : Below B w w') (hB : p < B) : Box w' p cs :=
  ⟨Nat.lt_of_lt_of_le h.1 hb.size, fun j v hv => (hb.cell (p := ⟨p, j, none⟩) hB).trans (h.2 j v hv)⟩
theorem Box.all (h : Box w p cs) (hb : Below w.heap.size w w') : Box w' p cs := h.below hb h.1
theorem Box.grown {row : Option Nat} (h : Box w p cs) (hg : w.grownBy w' row) (hne : some p ≠ row) : Box w' p cs :=
  ⟨Nat.lt_of_lt_of_le h.1 hg.size, fun j v hv => hg.cell (a := ⟨p, j, none⟩) (h.2 j v hv) hne⟩
end
theorem Rd.all {w w' : World} {B n c : Nat} {A : Option Addr} {xs : List Int} (h : Rd w B A n c xs) (hb : Below w.heap.size w w') (hB : B ≤ w.heap.size) : Rd w' B A n c xs := h.below hb hB
theorem below_drew {w w' : World} {B : Nat} (h : Below B w.drew w') : Below B w w' := ⟨h.os, h.tape, h.output, h.size, h.block⟩
theorem ret_int {k : IntKind} {a b : Int} (h : a = b) : Ending.returned (.int k a) = .returned (.int k b) := by rw [h]
theorem ret_bool {a b : Bool} (h : a = b) : Ending.returned (.bool a) = .returned (.bool b) := by rw [h]
theorem info_int : (Try.prog.info? 3).map (fun i => (i.zero, i.size, i.bytes)) = some (some (.int .i64 0), 1, 8) := by kernel_rfl
end Go.Proofs.Ytbbbkeomfohacaa
