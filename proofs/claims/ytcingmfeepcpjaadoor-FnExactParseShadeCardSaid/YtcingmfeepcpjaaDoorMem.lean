/- Words for slices of integers: a slice that reads as a list (nil let in), one that the call itself made; what keeps them. No condition. -/
import Derived.Test.YtcingmfeepcpjaaDoorRows
import Derived.WalkKit
import Derived.WalkSpells
import Derived.WalkLawsBesides
import Derived.Lib.Hide
import Derived.Laws.CopyOwn
import Derived.Deep.AppendLies
import Derived.Deep.Draws
import Derived.Deep.QuietTactic
import Derived.BigQuiet
import Derived.Deep.RegionHeld3
namespace Go.Proofs.YtcingmfeepcpjaaDoor
open Go.RowKit

theorem getD_at {xs : List Int} {j : Nat} (h : j < xs.length) : xs.getD j 0 = xs[j] := by rw [List.getD_eq_getElem?_getD, List.getElem?_eq_getElem h]; rfl
/-- A number that fits. -/
def I64 (x : Int) : Prop := -9223372036854775808 ≤ x ∧ x ≤ 9223372036854775807
/-- The slice (A, n, c) reads as the numbers xs and lies below block B. -/
structure Rd (w : World) (B : Nat) (A : Option Addr) (n c : Nat) (xs : List Int) : Prop where
  len : xs.length = n
  cap : n ≤ c
  max : c ≤ maxLen
  cells : 0 < n → ∃ b off, A = some ⟨b, off, none⟩ ∧ b < B ∧ ∀ j, j < n → w.cell? ⟨b, off + j, none⟩ = some (.int .i64 (xs.getD j 0))
  fits : ∀ x ∈ xs, I64 x
  nil : A = none → n = 0 ∧ c = 0

section
variable {w w' : World} {B B' n c : Nat} {A : Option Addr} {xs : List Int}
theorem Rd.keep (h : Rd w B A n c xs) (hk : ∀ b o, b < B → w'.cell? ⟨b, o, none⟩ = w.cell? ⟨b, o, none⟩) : Rd w' B A n c xs :=
  ⟨h.len, h.cap, h.max, fun hn => by
    obtain ⟨b, off, e, hb, hc⟩ := h.cells hn
    exact ⟨b, off, e, hb, fun j hj => (hk _ _ hb).trans (hc j hj)⟩, h.fits, h.nil⟩
theorem Rd.more (h : Rd w B A n c xs) (hB : B ≤ B') : Rd w B' A n c xs :=
  ⟨h.len, h.cap, h.max, fun hn => by
    obtain ⟨b, off, e, hb, hc⟩ := h.cells hn
    exact ⟨b, off, e, by omega, hc⟩, h.fits, h.nil⟩
theorem Rd.below (h : Rd w B A n c xs) (hb : Below B' w w') (hB : B ≤ B') : Rd w' B A n c xs := h.keep fun b o hp => hb.cell (p := ⟨b, o, none⟩) (by show b < B'; omega)
theorem Rd.drew (h : Rd w B A n c xs) : Rd w.drew B A n c xs := ⟨h.len, h.cap, h.max, h.cells, h.fits, h.nil⟩
theorem Rd.drewN (h : Rd w B A n c xs) (k : Nat) : Rd (w.drewN k) B A n c xs := ⟨h.len, h.cap, h.max, h.cells, h.fits, h.nil⟩
theorem Rd.alloc (h : Rd w B A n c xs) (hB : B ≤ w.heap.size) (o : Obj) : Rd (w.alloc o) B A n c xs := h.keep fun b _ hp => World.cell?_alloc_lt w o ⟨b, _, none⟩ (by show b < _; omega)
theorem Rd.len_lt (h : Rd w B A n c xs) : n ≤ 9223372036854775807 := by have := h.cap; have := h.max; unfold maxLen at this; omega
theorem Rd.at {k : Nat} (h : Rd w B A n c xs) (hk : k < n) : ∃ b off x, A = some ⟨b, off, none⟩ ∧ b < B ∧ w.cell? ⟨b, off + k, none⟩ = some (.int .i64 x) ∧ -9223372036854775808 ≤ x ∧ x ≤ 9223372036854775807 ∧ Hid (xs.getD k 0 = x) := by
  obtain ⟨b, off, e, hb, hc⟩ := h.cells (by omega)
  have hl := h.len
  have hf : I64 (xs.getD k 0) := by rw [getD_at (by omega)]; exact h.fits _ (List.getElem_mem _)
  exact ⟨b, off, xs.getD k 0, e, hb, hc k hk, hf.1, hf.2, rfl⟩
theorem Rd.fit (h : Rd w B A n c xs) (j : Nat) : I64 (xs.getD j 0) := by
  by_cases hj : j < xs.length
  · rw [getD_at hj]; exact h.fits _ (List.getElem_mem hj)
  · rw [List.getD_eq_getElem?_getD, List.getElem?_eq_none (by omega)]; exact ⟨by simp, by simp⟩
end

/-- The slice v holds the numbers xs in a block of its own, from block lo on. -/
def Own (w : World) (lo : Nat) (v : Value) (xs : List Int) : Prop := w.ownsRow lo 3 1 v xs.length (xs.map (Value.int .i64)) ∧ ∀ x ∈ xs, I64 x

section
variable {w w' : World} {lo : Nat} {v : Value} {xs : List Int}
theorem Own.nil (w : World) (lo : Nat) : Own w lo (.slice none 0 0) [] := ⟨World.ownsRow_nil w lo _ _, fun _ h => by simp at h⟩
theorem Own.form (h : Own w lo v xs) : ∃ A c, v = .slice A xs.length c ∧ Rd w w.heap.size A xs.length c xs ∧ (∀ k, v.ownBlock = some k → lo ≤ k ∧ k < w.heap.size) := by
  have hlt := h.1.lt
  obtain ⟨⟨h1, h2⟩, hf⟩ := h
  rcases h2 with ⟨rfl, h0⟩ | ⟨g, cap, cur, rfl, hb, hg, hle, hm, hs, ht⟩
  · exact ⟨none, 0, by rw [h0], ⟨rfl, by omega, by unfold maxLen; omega, fun h => by omega, hf, fun _ => ⟨h0, rfl⟩⟩, hlt⟩
  · refine ⟨_, cap, rfl, ⟨rfl, hle, hm, fun hn => ⟨g, 0, rfl, (hlt g rfl).2, fun j hj => ?_⟩, hf, fun h => by cases h⟩, hlt⟩
    have e : cur[j]? = some (.int .i64 (xs.getD j 0)) := by
      rw [← Array.getElem?_toList]
      have : (cur.toList.take (xs.length * 1))[j]? = (xs.map (Value.int .i64))[j]? := by rw [ht]
      rw [List.getElem?_take, if_pos (by omega), List.getElem?_map, List.getElem?_eq_getElem hj] at this
      rw [this, getD_at hj]; rfl
    rw [Nat.zero_add, cell_of_row w g j cur _ (0, 0) hg, e]
theorem Own.kept {row : Option Nat} (h : Own w lo v xs) (hg : w.grownBy w' row) (hne : v.ownBlock = none ∨ v.ownBlock ≠ row) : Own w' lo v xs := ⟨h.1.kept hg hne, h.2⟩
theorem Own.below {B : Nat} (h : Own w lo v xs) (hb : Below B w w') (hB : ∀ k, v.ownBlock = some k → k < B) : Own w' lo v xs := by
  refine ⟨⟨h.1.1, ?_⟩, h.2⟩
  rcases h.1.2 with h0 | ⟨g, cap, cur, rfl, hbb, hg, r⟩
  · exact .inl h0
  · exact .inr ⟨g, cap, cur, rfl, hbb, (hb.block g (hB g rfl)).trans hg, r⟩
theorem Own.all (h : Own w lo v xs) (hb : Below w.heap.size w w') : Own w' lo v xs := h.below hb fun k hk => (h.1.lt k hk).2
theorem Own.more {lo' : Nat} (h : Own w lo v xs) (hl : ∀ k, v.ownBlock = some k → lo' ≤ k) : Own w lo' v xs := by
  refine ⟨⟨h.1.1, ?_⟩, h.2⟩
  rcases h.1.2 with h0 | ⟨g, cap, cur, rfl, hbb, r⟩
  · exact .inl h0
  · exact .inr ⟨g, cap, cur, rfl, hl g rfl, r⟩
theorem Own.mono {lo' : Nat} (h : Own w lo v xs) (hl : lo' ≤ lo) : Own w lo' v xs := h.more fun k hk => Nat.le_trans hl (h.1.lt k hk).1
theorem Own.setLow (h : Own w lo v xs) {p : Addr} (hp : p.block < lo) (u : Value) : Own (w.setCell p u) lo v xs := ⟨ownsRow_setCell_below h.1 hp u, h.2⟩
theorem Own.alloc (h : Own w lo v xs) (o : Obj) : Own (w.alloc o) lo v xs := h.all ((Below.refl _ _).alloc (Nat.le_refl _) o)
theorem Own.drewN (h : Own w lo v xs) (k : Nat) : Own (w.drewN k) lo v xs := ⟨h.1, h.2⟩
end
theorem bcell {W w1 : World} {B : Nat} (hb : Below B W w1) : (∀ b o, b < B → w1.cell? ⟨b, o, none⟩ = W.cell? ⟨b, o, none⟩) ∧ (∀ b o, b < B → w1.frozen? ⟨b, o, none⟩ = W.frozen? ⟨b, o, none⟩) :=
  ⟨fun b o h => hb.cell (p := ⟨b, o, none⟩) h, fun b o h => hb.frozen (p := ⟨b, o, none⟩) h⟩
theorem low_drewN (w : World) (n : Nat) : Below w.heap.size w (w.drewN n) := ⟨rfl, rfl, rfl, Nat.le_refl _, fun _ _ => rfl⟩
theorem belowN {B : Nat} {a w : World} (h : Below B a w) (n : Nat) : Below B a (w.drewN n) := ⟨h.os, h.tape, h.output, h.size, h.block⟩
theorem belowD {B : Nat} {a w : World} (h : Below B a w) : Below B a w.drew := ⟨h.os, h.tape, h.output, h.size, h.block⟩
/-- Block p holds the cells cs at its head. -/
def Box (w : World) (p : Nat) (cs : List Value) : Prop := p < w.heap.size ∧ ∀ j v, cs[j]? = some v → w.cell? ⟨p, j, none⟩ = some v
section
variable {w w' : World} {p : Nat} {cs : List Value}
theorem Box.new (w : World) (cs : Array Value) (t : TypeId) : Box (w.alloc (.cells cs t)) w.heap.size cs.toList :=
  ⟨by simp, fun j v h => by
    rw [cell_of_row (w.alloc (.cells cs t)) w.heap.size j cs t (0, 0) (heap_alloc_new w _)]
    simpa using h⟩
theorem Box.below {B : Nat} (h : Box w p cs) (hb : Below B w w') (hB : p < B) : Box w' p cs :=
  ⟨Nat.lt_of_lt_of_le h.1 hb.size, fun j v hv => (hb.cell (p := ⟨p, j, none⟩) hB).trans (h.2 j v hv)⟩
theorem Box.all (h : Box w p cs) (hb : Below w.heap.size w w') : Box w' p cs := h.below hb h.1
theorem Box.grown {row : Option Nat} (h : Box w p cs) (hg : w.grownBy w' row) (hne : some p ≠ row) : Box w' p cs :=
  ⟨Nat.lt_of_lt_of_le h.1 hg.size, fun j v hv => hg.cell (a := ⟨p, j, none⟩) (h.2 j v hv) hne⟩
end
/-- Block p is known whole, and nothing of it is frozen. -/
def Blk (w : World) (p : Nat) (t : TypeId) (cs : Array Value) : Prop := w.heap[p]? = some (.cells cs t (0, 0))
section
variable {w w' : World} {p : Nat} {t : TypeId} {cs : Array Value}
theorem Blk.lt (h : Blk w p t cs) : p < w.heap.size := (Array.getElem?_eq_some_iff.1 h).1
theorem Blk.new (w : World) (cs : Array Value) (t : TypeId) : Blk (w.alloc (.cells cs t)) w.heap.size t cs := heap_alloc_new w _
theorem Blk.cell (h : Blk w p t cs) (i : Nat) : w.cell? ⟨p, i, none⟩ = cs[i]? := cell_of_row w p i cs t (0, 0) h
theorem Blk.frozen (h : Blk w p t cs) (i : Nat) : w.frozen? ⟨p, i, none⟩ = false := frozen_of_row w p i cs t h
theorem Blk.below {B : Nat} (h : Blk w p t cs) (hb : Below B w w') (hB : p < B) : Blk w' p t cs := (hb.block p hB).trans h
theorem Blk.all (h : Blk w p t cs) (hb : Below w.heap.size w w') : Blk w' p t cs := h.below hb h.lt
theorem Blk.mark {row : Option Nat} (h : Blk w p t cs) (hg : w.grownBy w' row) (hr : ∀ k, row = some k → k ≠ p) : Blk w' p t cs := (hg.block p h.lt (fun e => hr p e.symm rfl)).trans h
theorem Blk.set_ (h : Blk w p t cs) (i : Nat) (u : Value) : Blk (w.setCell ⟨p, i, none⟩ u) p t (cs.setIfInBounds i u) := heap_setCell_same w p i cs t u h
theorem Blk.far (h : Blk w p t cs) {a : Addr} (ha : p ≠ a.block) (u : Value) : Blk (w.setCell a u) p t cs := (heap_setCell_other w a p u ha).trans h
theorem Blk.alloc (h : Blk w p t cs) (o : Obj) : Blk (w.alloc o) p t cs := (Below.heap_alloc w o p h.lt).trans h
theorem Blk.at_ {q : Nat} (h : Blk w p t cs) (e : p = q) : Blk w q t cs := e ▸ h
theorem Blk.box (h : Blk w p t cs) : Box w p cs.toList := ⟨h.lt, fun j v hv => by rw [h.cell]; simpa using hv⟩
end
/-- A row of numbers is no block of another type. -/
theorem row_ne {w : World} {base e size n p : Nat} {t : TypeId} {cs : Array Value} {v : Value} {xs : List Value} (h : w.ownsRow base e size v n xs) (hb : Blk w p t cs) (hne : e ≠ t) : ∀ k, v.ownBlock = some k → k ≠ p := by
  rintro k hk rfl
  rcases h.2 with ⟨rfl, _⟩ | ⟨g, cap, cur, rfl, _, hg, _⟩
  · cases hk
  · cases hk
    unfold Blk at hb
    rw [hb] at hg
    injection hg with hg
    injection hg with _ ht
    exact hne ht.symm
theorem row_ne' {w : World} {base e size n p : Nat} {t : TypeId} {cs : Array Value} {v : Value} {xs : List Value} (h : w.ownsRow base e size v n xs) (hb : Blk w p t cs) (hne : e ≠ t) : v.ownBlock ≠ some p :=
  fun h0 => row_ne h hb hne p h0 rfl
theorem grown_setCell (w : World) (a : Addr) (u : Value) : w.grownBy (w.setCell a u) (some a.block) :=
  ⟨rfl, rfl, rfl, by simp [World.setCell], fun k _ hk => heap_setCell_other w a k u (fun e => hk (by rw [e]))⟩
theorem Own.far {w : World} {lo : Nat} {v : Value} {xs : List Int} (h : Own w lo v xs) {a : Addr} (ha : v.ownBlock ≠ some a.block) (u : Value) : Own (w.setCell a u) lo v xs := h.kept (grown_setCell w a u) (.inr ha)
/-- A chart is stored to its place in the result. -/
theorem fin3 {w0 w : World} {p lo B : Nat} {v a b c : Value} {ys : List Int} (h : Own w lo v ys) (hp : v.ownBlock ≠ some p) (hb : Below B w0 w) (hB : B ≤ p) :
    Own (((w.setCell ⟨p, 0, none⟩ a).setCell ⟨p, 1, none⟩ b).setCell ⟨p, 2, none⟩ c) lo v ys ∧ Below B w0 (((w.setCell ⟨p, 0, none⟩ a).setCell ⟨p, 1, none⟩ b).setCell ⟨p, 2, none⟩ c) :=
  ⟨((h.far (a := ⟨p, 0, none⟩) hp a).far (a := ⟨p, 1, none⟩) hp b).far (a := ⟨p, 2, none⟩) hp c, ((hb.setCell (p := ⟨p, 0, none⟩) hB a).setCell (p := ⟨p, 1, none⟩) hB b).setCell (p := ⟨p, 2, none⟩) hB c⟩
theorem Rd.all {w w' : World} {B n c : Nat} {A : Option Addr} {xs : List Int} (h : Rd w B A n c xs) (hb : Below w.heap.size w w') (hB : B ≤ w.heap.size) : Rd w' B A n c xs := h.below hb hB
theorem Own.empty {w : World} {lo : Nat} (h : lo ≤ w.heap.size) : Own (w.alloc (.cells #[] 3)) lo (.slice (some ⟨w.heap.size, 0, none⟩) 0 0) [] :=
  ⟨World.ownsRow_made w #[] 0 h (Nat.zero_le _) rfl, fun _ h => by simp at h⟩
theorem Own.rd {w : World} {lo n c : Nat} {A : Option Addr} {xs : List Int} (h : Own w lo (.slice A n c) xs) : Rd w w.heap.size A n c xs := by
  obtain ⟨A', c', hv, hr, _⟩ := h.form
  cases hv
  exact hr
theorem Own.bd {w : World} {lo : Nat} {v : Value} {xs : List Int} (h : Own w lo v xs) : ∀ k, v.ownBlock = some k → lo ≤ k ∧ k < w.heap.size := h.1.lt
theorem Own.mark {w w' : World} {lo : Nat} {v : Value} {xs : List Int} {row : Option Nat} (h : Own w lo v xs) (hg : w.grownBy w' row) (hd : ∀ k k', row = some k → v.ownBlock = some k' → k ≠ k') : Own w' lo v xs :=
  h.kept hg (by
    cases hv : v.ownBlock with
    | none => exact .inl rfl
    | some k' => exact .inr fun e => hd k' k' e.symm hv rfl)
theorem Box.mark {w w' : World} {p : Nat} {cs : List Value} {row : Option Nat} (h : Box w p cs) (hg : w.grownBy w' row) (hr : ∀ k, row = some k → k ≠ p) : Box w' p cs := h.grown hg fun e => hr p e.symm rfl
theorem Rd.mark {w w' : World} {B n c : Nat} {A : Option Addr} {xs : List Int} {row : Option Nat} (h : Rd w B A n c xs) (hg : w.grownBy w' row) (hr : ∀ k, row = some k → B ≤ k) (hB : B ≤ w.heap.size) : Rd w' B A n c xs :=
  h.keep fun b o hb => World.cell?_of_block (hg.block b (by omega) (fun e => by have := hr b e.symm; omega))
/-- What a call leaves that answers v and writes into new memory alone. -/
def Out (w : World) (v : Value) (e : Ending) (w' : World) : Prop := e = .returned v ∧ Below w.heap.size w w'
/-- The same with a slice of its own in front of a yes or no. -/
def OutInts (w : World) (ys : List Int) (b : Bool) (e : Ending) (w' : World) : Prop :=
  ∃ A c, e = .returned (.tuple #[.slice A ys.length c, .bool b]) ∧ Own w' w.heap.size (.slice A ys.length c) ys ∧ Below w.heap.size w w'
/-- The same with a chart of its own. -/
def OutChart (w : World) (W H : Int) (ys : List Int) (b : Bool) (e : Ending) (w' : World) : Prop :=
  ∃ A c, e = .returned (.tuple #[.agg #[.int .i64 W, .int .i64 H, .slice A ys.length c], .bool b]) ∧ Own w' w.heap.size (.slice A ys.length c) ys ∧ Below w.heap.size w w'
theorem below_drew {w w' : World} {B : Nat} (h : Below B w.drew w') : Below B w w' := ⟨h.os, h.tape, h.output, h.size, h.block⟩
theorem below_drew' {w w' : World} (h : Below w.drew.heap.size w.drew w') : Below w.heap.size w w' := ⟨h.os, h.tape, h.output, h.size, h.block⟩
theorem cells_of {v w' : World} {B b o : Nat} {x : Value} (hb : Below B v w') (e : v.cell? ⟨b, o, none⟩ = some x) (h : b < B) : w'.cell? ⟨b, o, none⟩ = some x := (hb.cell (p := ⟨b, o, none⟩) h).trans e
theorem ret_int {k : IntKind} {a b : Int} (h : a = b) : Ending.returned (.int k a) = .returned (.int k b) := by rw [h]
theorem ret_bool {a b : Bool} (h : a = b) : Ending.returned (.bool a) = .returned (.bool b) := by rw [h]
theorem info_int : (Tryd.prog.info? 3).map (fun i => (i.zero, i.size, i.bytes)) = some (some (.int .i64 0), 1, 8) := by kernel_rfl
theorem Own.some_ {w : World} {lo n c : Nat} {A : Option Addr} {xs : List Int} (h : Own w lo (.slice A n c) xs) (hn : 0 < xs.length) : ∃ g, A = some ⟨g, 0, none⟩ ∧ lo ≤ g ∧ g < w.heap.size := by
  rcases h.1.2 with ⟨e, h0⟩ | ⟨g, cap, cur, e, hb, hg, _⟩
  · omega
  · cases e
    exact ⟨g, rfl, hb, (Array.getElem?_eq_some_iff.1 hg).1⟩
/-- One number of an owned slice read, and another one stored in its place. -/
theorem own_at {w : World} {lo g n c j : Nat} {xs : List Int} {x : Int} (h : Own w lo (.slice (some ⟨g, 0, none⟩) n c) xs) (hj : j < xs.length) (hx : xs.getD j 0 = x) : w.cell? ⟨g, j, none⟩ = some (.int .i64 x) := by
  obtain ⟨A, c', e, hr, _⟩ := h.form
  cases e
  obtain ⟨b, off, e, _, hc⟩ := hr.cells (by omega)
  cases e
  have := hc j hj
  rwa [Nat.zero_add, hx] at this
theorem own_put {w : World} {lo g n c : Nat} {xs : List Int} (h : Own w lo (.slice (some ⟨g, 0, none⟩) n c) xs) (j : Nat) (x : Int) (hx : I64 x) :
    w.frozen? ⟨g, j, none⟩ = false ∧ Own (w.setCell ⟨g, j, none⟩ (.int .i64 x)) lo (.slice (some ⟨g, 0, none⟩) n c) (xs.set j x) ∧ w.grownBy (w.setCell ⟨g, j, none⟩ (.int .i64 x)) (some g) := by
  obtain ⟨A, c', e, hr, _⟩ := h.form
  cases e
  have H := h.1.stored j (.int .i64 x)
  refine ⟨h.1.frozenAt j, ⟨?_, fun y hy => ?_⟩, H.2⟩
  · rw [List.length_set, List.map_set]; exact H.1
  · rcases List.mem_or_eq_of_mem_set hy with hy | rfl
    · exact h.2 y hy
    · exact hx
/-- A row as long as its room is a block known whole, and back. -/
theorem row_blk {w : World} {base g n : Nat} {e : TypeId} {xs : List Value} (h : w.ownsRow base e 1 (.slice (some ⟨g, 0, none⟩) n n) n xs) : Blk w g e xs.toArray := by
  rcases h.2 with ⟨h', _⟩ | ⟨g', cap, cur, h', _, hg, _, _, hs, ht⟩
  · cases h'
  · simp only [Value.slice.injEq, Option.some.injEq, Addr.mk.injEq, and_true, true_and] at h'
    obtain ⟨rfl, rfl⟩ := h'
    rw [List.take_of_length_le (by rw [Array.length_toList]; omega)] at ht
    subst ht
    exact hg
theorem blk_own {w : World} {lo g : Nat} {xs : List Int} (h : Blk w g 3 (xs.map (Value.int .i64)).toArray) (hg : lo ≤ g) (hm : xs.length ≤ maxLen) (hf : ∀ x ∈ xs, I64 x) : Own w lo (.slice (some ⟨g, 0, none⟩) xs.length xs.length) xs :=
  ⟨⟨by simp, .inr ⟨g, xs.length, _, rfl, hg, h, Nat.le_refl _, hm, by simp, List.take_of_length_le (by simp)⟩⟩, hf⟩
/-- append of one number to a slice of the call's own. -/
theorem wpList_append_one {P : Program} {ops : Array Oper} {rest : List Oper} {o : Oper} {a : Act} {Q : Exit → Act → World → Prop} (w : World) (hgd : o.guard = none) (s x : Operand) (T : TypeId)
    (ho : o.op = .call { callee := .builtin .append, args := #[s, x], argTypes := #[T, T] }) (ht : P.underlying T = some (.slice 3)) (hinfo : (P.info? 3).map (fun i => (i.zero, i.size, i.bytes)) = some (some (.int .i64 0), 1, 8))
    (lo : Nat) (v : Value) (xs : List Int) (q : Int)
    (hs : a.eval s = v) (hx : a.eval x = .slice (some ⟨w.heap.size, 0, none⟩) 1 1) (hown : Own w lo v xs) (hlen : xs.length ≤ 1073741824) (hq : I64 q) (hlo : lo ≤ w.heap.size)
    (h : ∀ A' c' w', Own w' lo (.slice A' (xs.length + 1) c') (xs ++ [q]) → w.grownBy w' v.ownBlock → wpList P ops Q rest (a.put o.dst (.slice A' (xs.length + 1) c')) w') :
    wpList P ops Q (o :: rest) a (w.alloc (.cells #[.int .i64 q] 3)) := by
  obtain ⟨i0, hi, hz0, hz1, hz2⟩ := info_parts hinfo
  refine wpList_append_own _ hgd s x T ho lo 3 i0 (.int .i64 0) 1 8 ht hi hz0 hz1 hz2 rfl (by decide) v xs.length _ hs (hown.alloc _).1 ⟨w.heap.size, 0, none⟩ 1 1 [.int .i64 q] hx rfl ?_ ?_ ?_ ?_ ?_ ?_
  · intro j u hj
    match j, hj with
    | 0, hj =>
      simp at hj; subst hj
      rw [show (⟨w.heap.size, 0, none⟩ : Addr).add 0 = ⟨w.heap.size, 0, none⟩ from rfl, (Blk.new w #[.int .i64 q] _).cell]; rfl
  · intro u hu; simp at hu; subst hu; rfl
  · unfold maxLen; omega
  · omega
  · simp; omega
  · intro v' w' ho' hg' _
    have hO : Own w' lo v' (xs ++ [q]) := ⟨by simpa using ho', fun y hy => by
      rcases List.mem_append.1 hy with hy | hy
      · exact hown.2 y hy
      · simp at hy; subst hy; exact hq⟩
    obtain ⟨A', c', rfl, _, _⟩ := hO.form
    rw [List.length_append] at hO
    have := h A' c' w' hO ⟨hg'.os, hg'.tape, hg'.output, Nat.le_trans (by simp) hg'.size, fun k hk hne => (hg'.block k (by simp; omega) hne).trans (Below.heap_alloc w _ k hk)⟩
    rwa [List.length_append]
end Go.Proofs.YtcingmfeepcpjaaDoor
