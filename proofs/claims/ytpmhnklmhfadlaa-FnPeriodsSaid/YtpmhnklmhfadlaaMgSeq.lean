/- Several texts of this proof in one: Seq, AppF, Step, CopyStep, CopyF, RepMath, Concat. No condition. -/
import Derived.Test.YtpmhnklmhfadlaaMem
import Derived.Lib.AppendZerosOnto
namespace Go.Proofs.Ytpmhnklmhfadlaa
open Go.RowKit

/-- How an element lies in memory. -/
structure Flat (α : Type) where
  t : TypeId
  k : Nat
  enc : α → List Value
  ok : α → Prop
  len : ∀ a, (enc a).length = k
  one : ∀ a, ∀ v ∈ enc a, v.oneCell' = true

section
variable {α : Type} {enc : α → List Value} {k : Nat}
theorem flat_len (h : ∀ a, (enc a).length = k) (xs : List α) : (xs.flatMap enc).length = xs.length * k := by
  induction xs with
  | nil => simp
  | cons x xs ih => simp [List.flatMap_cons, ih, h, Nat.succ_mul, Nat.add_comm]
theorem flat_drop (h : ∀ a, (enc a).length = k) (xs : List α) (j : Nat) : (xs.flatMap enc).drop (j * k) = (xs.drop j).flatMap enc := by
  induction xs generalizing j with
  | nil => simp
  | cons x xs ih =>
    cases j with
    | zero => simp
    | succ j =>
      rw [List.flatMap_cons, Nat.succ_mul, List.drop_append, List.drop_of_length_le (by rw [h]; omega), h, Nat.add_sub_cancel, ih]
      simp
theorem flat_take (h : ∀ a, (enc a).length = k) (xs : List α) (j : Nat) : (xs.flatMap enc).take (j * k) = (xs.take j).flatMap enc := by
  induction xs generalizing j with
  | nil => simp
  | cons x xs ih =>
    cases j with
    | zero => simp
    | succ j =>
      rw [List.flatMap_cons, Nat.succ_mul, List.take_append, List.take_of_length_le (by rw [h]; omega), h, Nat.add_sub_cancel, ih]
      simp
theorem flat_get (h : ∀ a, (enc a).length = k) {xs : List α} {j i : Nat} {a : α} (hj : xs[j]? = some a) (hi : i < k) : (xs.flatMap enc)[j * k + i]? = (enc a)[i]? := by
  rw [← List.getElem?_drop, flat_drop h]
  obtain ⟨hlt, rfl⟩ := List.getElem?_eq_some_iff.1 hj
  rw [List.drop_eq_getElem_cons hlt, List.flatMap_cons, List.getElem?_append_left (by rw [h]; exact hi)]
/-- Cells put into a row, one after the other. -/
def setMany : List Value → Nat → List Value → List Value
  | l, _, [] => l
  | l, o, v :: vs => setMany (l.set o v) (o + 1) vs
theorem setMany_eq (vs : List Value) : ∀ (l : List Value) (o : Nat), o + vs.length ≤ l.length → setMany l o vs = l.take o ++ vs ++ l.drop (o + vs.length) := by
  induction vs with
  | nil => intro l o _; simp [setMany]
  | cons v vs ih =>
    intro l o h
    simp only [List.length_cons] at h
    rw [setMany, ih _ _ (by rw [List.length_set]; omega)]
    have e1 : (l.set o v).take (o + 1) = l.take o ++ [v] := by
      rw [List.take_set, List.take_succ_eq_append_getElem (by omega), List.set_append, if_neg (by rw [List.length_take]; omega)]
      rw [show o - (List.take o l).length = 0 by rw [List.length_take]; omega]
      rfl
    have e2 : (l.set o v).drop (o + 1 + vs.length) = l.drop (o + (v :: vs).length) := by
      rw [List.drop_set, if_pos (by omega), List.length_cons, Nat.add_right_comm, Nat.add_assoc]
    rw [e1, e2, List.append_assoc, List.append_assoc, List.append_assoc]
    rfl
theorem flat_put (h : ∀ a, (enc a).length = k) {xs : List α} {j : Nat} (a : α) (hj : j < xs.length) : setMany (xs.flatMap enc) (j * k) (enc a) = (xs.set j a).flatMap enc := by
  have hle : (j + 1) * k ≤ xs.length * k := Nat.mul_le_mul_right _ hj
  rw [Nat.succ_mul] at hle
  rw [setMany_eq _ _ _ (by rw [flat_len h, h]; exact hle), h, ← Nat.succ_mul, flat_take h, flat_drop h, List.set_eq_take_append_cons_drop, if_pos hj]
  simp
theorem setMany_set (vs : List Value) : ∀ (l : List Value) (o q : Nat) (v : Value), q < o → setMany (l.set q v) o vs = (setMany l o vs).set q v := by
  induction vs with
  | nil => intros; rfl
  | cons u vs ih =>
    intro l o q v h
    rw [setMany, setMany, List.set_comm _ _ (by omega), ih _ _ _ _ (by omega)]
end

/-- The slice (A, n, c) reads as the elements xs and lies below block B. -/
structure RdF {α : Type} (F : Flat α) (w : World) (B : Nat) (A : Option Addr) (n c : Nat) (xs : List α) : Prop where
  len : xs.length = n
  cap : n ≤ c
  max : c ≤ maxLen
  cells : 0 < n → ∃ b off, A = some ⟨b, off, none⟩ ∧ b < B ∧ ∀ j i a v, xs[j]? = some a → (F.enc a)[i]? = some v → w.cell? ⟨b, off + (j * F.k + i), none⟩ = some v
  fits : ∀ x ∈ xs, F.ok x
  nil : A = none → n = 0 ∧ c = 0

section
variable {α : Type} {F : Flat α} {w w' : World} {B B' n c : Nat} {A : Option Addr} {xs : List α}
theorem RdF.keep (h : RdF F w B A n c xs) (hk : ∀ b o, b < B → w'.cell? ⟨b, o, none⟩ = w.cell? ⟨b, o, none⟩) : RdF F w' B A n c xs :=
  ⟨h.len, h.cap, h.max, fun hn => by
    obtain ⟨b, off, e, hb, hc⟩ := h.cells hn
    exact ⟨b, off, e, hb, fun j i a v hj hi => (hk _ _ hb).trans (hc j i a v hj hi)⟩, h.fits, h.nil⟩
theorem RdF.more (h : RdF F w B A n c xs) (hB : B ≤ B') : RdF F w B' A n c xs :=
  ⟨h.len, h.cap, h.max, fun hn => by
    obtain ⟨b, off, e, hb, hc⟩ := h.cells hn
    exact ⟨b, off, e, by omega, hc⟩, h.fits, h.nil⟩
theorem RdF.below (h : RdF F w B A n c xs) (hb : Below B' w w') (hB : B ≤ B') : RdF F w' B A n c xs := h.keep fun b o hp => hb.cell (p := ⟨b, o, none⟩) (by show b < B'; omega)
theorem RdF.all (h : RdF F w B A n c xs) (hb : Below w.heap.size w w') (hB : B ≤ w.heap.size) : RdF F w' B A n c xs := h.below hb hB
theorem RdF.drew (h : RdF F w B A n c xs) : RdF F w.drew B A n c xs := ⟨h.len, h.cap, h.max, h.cells, h.fits, h.nil⟩
theorem RdF.drewN (h : RdF F w B A n c xs) (k : Nat) : RdF F (w.drewN k) B A n c xs := ⟨h.len, h.cap, h.max, h.cells, h.fits, h.nil⟩
theorem RdF.alloc (h : RdF F w B A n c xs) (hB : B ≤ w.heap.size) (o : Obj) : RdF F (w.alloc o) B A n c xs := h.keep fun b _ hp => World.cell?_alloc_lt w o ⟨b, _, none⟩ (by show b < _; omega)
theorem RdF.len_lt (h : RdF F w B A n c xs) : n ≤ 9223372036854775807 := by have := h.cap; have := h.max; unfold maxLen at this; omega
theorem RdF.mark {row : Option Nat} (h : RdF F w B A n c xs) (hg : w.grownBy w' row) (hr : ∀ k, row = some k → B ≤ k) (hB : B ≤ w.heap.size) : RdF F w' B A n c xs :=
  h.keep fun b o hb => World.cell?_of_block (hg.block b (by omega) (fun e => by have := hr b e.symm; omega))
/-- One element: where it lies, its cells. -/
theorem RdF.at (h : RdF F w B A n c xs) {j : Nat} (hj : j < n) : ∃ b off a, A = some ⟨b, off, none⟩ ∧ b < B ∧ F.ok a ∧ Hid (xs[j]? = some a) ∧ Hid (∀ i v, (F.enc a)[i]? = some v → w.cell? ⟨b, off + (j * F.k + i), none⟩ = some v) := by
  obtain ⟨b, off, e, hb, hc⟩ := h.cells (by omega)
  have hl := h.len
  have hx : xs[j]? = some (xs[j]'(by omega)) := List.getElem?_eq_getElem (by omega)
  exact ⟨b, off, _, e, hb, h.fits _ (List.getElem_mem (by omega)), hx, fun i v hi => hc j i _ v hx hi⟩
/-- A slice from q on, as Go cuts it. -/
theorem RdF.cut {b off q : Nat} (h : RdF F w B (some ⟨b, off, none⟩) n c xs) (hq : q ≤ n) : RdF F w B (some ⟨b, if c = q then off else off + q * F.k, none⟩) (n - q) (c - q) (xs.drop q) := by
  refine ⟨by rw [List.length_drop, h.len], by have := h.cap; omega, by have := h.max; omega, fun hn => ?_, fun x hx => h.fits x (List.mem_of_mem_drop hx), fun e => by cases e⟩
  obtain ⟨_, _, e, hb, hc⟩ := h.cells (by omega)
  cases e
  have := h.cap
  rw [if_neg (by omega)]
  refine ⟨b, _, rfl, hb, fun j i a v hj hi => ?_⟩
  rw [List.getElem?_drop] at hj
  have := hc _ i a v hj hi
  rwa [show off + q * F.k + (j * F.k + i) = off + ((q + j) * F.k + i) by rw [Nat.add_mul]; omega]
/-- The head of a slice. -/
theorem RdF.head {q : Nat} (h : RdF F w B A n c xs) (hq : q ≤ n) : RdF F w B A q c (xs.take q) := by
  refine ⟨by rw [List.length_take, h.len]; omega, by have := h.cap; omega, h.max, fun hn => ?_, fun x hx => h.fits x (List.mem_of_mem_take hx), fun e => ⟨by have := (h.nil e).1; omega, (h.nil e).2⟩⟩
  obtain ⟨b, off, e, hb, hc⟩ := h.cells (by omega)
  refine ⟨b, off, e, hb, fun j i a v hj hi => hc j i a v ?_ hi⟩
  have hl := (List.getElem?_eq_some_iff.1 hj).1
  rw [List.length_take] at hl
  rw [List.getElem?_take, if_pos (by omega)] at hj
  exact hj
end

/-- The slice v holds the elements xs in a block of its own, from block lo on. -/
def OwnF {α : Type} (F : Flat α) (w : World) (lo : Nat) (v : Value) (xs : List α) : Prop := w.ownsRow lo F.t F.k v xs.length (xs.flatMap F.enc) ∧ ∀ x ∈ xs, F.ok x

section
variable {α : Type} {F : Flat α} {w w' : World} {lo : Nat} {v : Value} {xs : List α}
theorem OwnF.nil (F : Flat α) (w : World) (lo : Nat) : OwnF F w lo (.slice none 0 0) [] := ⟨World.ownsRow_nil w lo _ _, fun _ h => by simp at h⟩
theorem OwnF.form (h : OwnF F w lo v xs) : ∃ A c, v = .slice A xs.length c ∧ RdF F w w.heap.size A xs.length c xs ∧ (∀ k, v.ownBlock = some k → lo ≤ k ∧ k < w.heap.size) := by
  have hlt := h.1.lt
  obtain ⟨h1, hf⟩ := h
  rcases h1.2 with ⟨rfl, h0⟩ | ⟨g, cap, cur, rfl, hb, hg, hle, hm, hs, ht⟩
  · exact ⟨none, 0, by rw [h0], ⟨rfl, by omega, by unfold maxLen; omega, fun h => by omega, hf, fun _ => ⟨h0, rfl⟩⟩, hlt⟩
  · refine ⟨_, cap, rfl, ⟨rfl, hle, hm, fun hn => ⟨g, 0, rfl, (hlt g rfl).2, fun j i a v hj hi => ?_⟩, hf, fun h => by cases h⟩, hlt⟩
    have hik : i < F.k := by have := (List.getElem?_eq_some_iff.1 hi).1; rwa [F.len] at this
    have hjl := (List.getElem?_eq_some_iff.1 hj).1
    have hle2 : (j + 1) * F.k ≤ xs.length * F.k := Nat.mul_le_mul_right _ hjl
    rw [Nat.succ_mul] at hle2
    rw [Nat.zero_add, h1.cellAt _ (by omega), flat_get F.len hj hik, hi]
theorem OwnF.rd {n c : Nat} {A : Option Addr} (h : OwnF F w lo (.slice A n c) xs) : RdF F w w.heap.size A n c xs := by
  obtain ⟨A', c', hv, hr, _⟩ := h.form
  cases hv
  exact hr
theorem OwnF.bd (h : OwnF F w lo v xs) : ∀ k, v.ownBlock = some k → lo ≤ k ∧ k < w.heap.size := h.1.lt
theorem OwnF.kept (h : OwnF F w lo v xs) {row : Option Nat} (hg : w.grownBy w' row) (hne : v.ownBlock = none ∨ v.ownBlock ≠ row) : OwnF F w' lo v xs := ⟨h.1.kept hg hne, h.2⟩
theorem OwnF.below {B : Nat} (h : OwnF F w lo v xs) (hb : Below B w w') (hB : ∀ k, v.ownBlock = some k → k < B) : OwnF F w' lo v xs := by
  refine ⟨⟨h.1.1, ?_⟩, h.2⟩
  rcases h.1.2 with h0 | ⟨g, cap, cur, rfl, hbb, hg, r⟩
  · exact .inl h0
  · exact .inr ⟨g, cap, cur, rfl, hbb, (hb.block g (hB g rfl)).trans hg, r⟩
theorem OwnF.all (h : OwnF F w lo v xs) (hb : Below w.heap.size w w') : OwnF F w' lo v xs := h.below hb fun k hk => (h.1.lt k hk).2
theorem OwnF.mono {lo' : Nat} (h : OwnF F w lo v xs) (hl : lo' ≤ lo) : OwnF F w lo' v xs := by
  refine ⟨⟨h.1.1, ?_⟩, h.2⟩
  rcases h.1.2 with h0 | ⟨g, cap, cur, rfl, hbb, r⟩
  · exact .inl h0
  · exact .inr ⟨g, cap, cur, rfl, Nat.le_trans hl hbb, r⟩
theorem OwnF.alloc (h : OwnF F w lo v xs) (o : Obj) : OwnF F (w.alloc o) lo v xs := h.all ((Below.refl _ _).alloc (Nat.le_refl _) o)
theorem OwnF.drewN (h : OwnF F w lo v xs) (k : Nat) : OwnF F (w.drewN k) lo v xs := ⟨h.1, h.2⟩
theorem OwnF.drew (h : OwnF F w lo v xs) : OwnF F w.drew lo v xs := ⟨h.1, h.2⟩
theorem OwnF.setLow (h : OwnF F w lo v xs) {p : Addr} (hp : p.block < lo) (u : Value) : OwnF F (w.setCell p u) lo v xs := ⟨ownsRow_setCell_below h.1 hp u, h.2⟩
theorem OwnF.far (h : OwnF F w lo v xs) {a : Addr} (ha : v.ownBlock ≠ some a.block) (u : Value) : OwnF F (w.setCell a u) lo v xs := h.kept (grown_setCell w a u) (.inr ha)
theorem OwnF.mark {row : Option Nat} (h : OwnF F w lo v xs) (hg : w.grownBy w' row) (hd : ∀ k k', row = some k → v.ownBlock = some k' → k ≠ k') : OwnF F w' lo v xs :=
  h.kept hg (by
    cases hv : v.ownBlock with
    | none => exact .inl rfl
    | some k' => exact .inr fun e => hd k' k' e.symm hv rfl)
theorem OwnF.some_ {n c : Nat} {A : Option Addr} (h : OwnF F w lo (.slice A n c) xs) (hn : 0 < xs.length) : ∃ g, A = some ⟨g, 0, none⟩ ∧ lo ≤ g ∧ g < w.heap.size := by
  rcases h.1.2 with ⟨e, h0⟩ | ⟨g, cap, cur, e, hb, hg, _⟩
  · omega
  · cases e
    exact ⟨g, rfl, hb, (Array.getElem?_eq_some_iff.1 hg).1⟩
theorem OwnF.made (F : Flat α) {w : World} {lo : Nat} (cs : Array Value) (xs : List α) (h : lo ≤ w.heap.size) (hm : xs.length ≤ maxLen) (e : cs.toList = xs.flatMap F.enc) (hf : ∀ x ∈ xs, F.ok x) :
    OwnF F (w.alloc (.cells cs F.t)) lo (.slice (some ⟨w.heap.size, 0, none⟩) xs.length xs.length) xs :=
  ⟨e ▸ World.ownsRow_lit w cs xs.length h hm (by rw [← Array.length_toList, e, flat_len F.len]), hf⟩
theorem OwnF.empty (F : Flat α) {w : World} {lo : Nat} (h : lo ≤ w.heap.size) : OwnF F (w.alloc (.cells #[] F.t)) lo (.slice (some ⟨w.heap.size, 0, none⟩) 0 0) [] :=
  OwnF.made F #[] [] h (Nat.zero_le _) rfl (fun _ h => by simp at h)
theorem flat_made (F : Flat α) {cs : Array Value} {z : α} (hk : 0 < F.k) (hl : cs.toList = F.enc z) (n : Nat) : (madeCells cs (n * F.k)).toList = (List.replicate n z).flatMap F.enc := by
  have hs : cs.size = F.k := by rw [← Array.length_toList, hl, F.len]
  apply List.ext_getElem?
  intro m
  by_cases hm : m < n * F.k
  · have hd := Nat.div_add_mod m F.k
    have hmod := Nat.mod_lt m hk
    have hq : m / F.k < n := Nat.div_lt_of_lt_mul (by rw [Nat.mul_comm]; exact hm)
    have e : m = m / F.k * F.k + m % F.k := by rw [Nat.mul_comm]; exact hd.symm
    have e1 : ((List.replicate n z).flatMap F.enc)[m]? = (F.enc z)[m % F.k]? := by
      conv => lhs; rw [e]
      exact flat_get F.len (by rw [List.getElem?_replicate, if_pos hq]) hmod
    rw [e1, ← hl]
    simp [madeCells, hs, hm, hmod]
  · rw [List.getElem?_eq_none (by simp [madeCells]; omega), List.getElem?_eq_none (by rw [flat_len F.len, List.length_replicate]; omega)]
/-- Cells stored one after the other. -/
def putCells (w : World) (g : Nat) : Nat → List Value → World
  | _, [] => w
  | o, v :: vs => putCells (w.setCell ⟨g, o, none⟩ v) g (o + 1) vs
theorem putCells_own {base g n cap : Nat} {e : TypeId} {size : Nat} (vs : List Value) : ∀ (w : World) (o : Nat) (l : List Value), w.ownsRow base e size (.slice (some ⟨g, 0, none⟩) n cap) n l →
    (putCells w g o vs).ownsRow base e size (.slice (some ⟨g, 0, none⟩) n cap) n (setMany l o vs) ∧ w.grownBy (putCells w g o vs) (some g) := by
  induction vs with
  | nil => intro w o l h; exact ⟨h, World.grownBy.refl _ _⟩
  | cons v vs ih =>
    intro w o l h
    have H := h.stored o v
    have H2 := ih _ (o + 1) _ H.1
    exact ⟨H2.1, H.2.trans H2.2⟩
theorem OwnF.put {g n c j : Nat} (h : OwnF F w lo (.slice (some ⟨g, 0, none⟩) n c) xs) (hj : j < xs.length) (a : α) (ha : F.ok a) :
    OwnF F (putCells w g (j * F.k) (F.enc a)) lo (.slice (some ⟨g, 0, none⟩) n c) (xs.set j a) ∧ w.grownBy (putCells w g (j * F.k) (F.enc a)) (some g) := by
  obtain ⟨A', c', hv, hr, _⟩ := h.form
  cases hv
  have H := putCells_own (F.enc a) w (j * F.k) _ h.1
  rw [flat_put F.len a hj] at H
  refine ⟨⟨by rw [List.length_set]; exact H.1, fun x hx => ?_⟩, H.2⟩
  rcases List.mem_or_eq_of_mem_set hx with hx | rfl
  · exact h.2 x hx
  · exact ha
theorem OwnF.cell {g n c j i : Nat} {a : α} {v : Value} (h : OwnF F w lo (.slice (some ⟨g, 0, none⟩) n c) xs) (hj : xs[j]? = some a) (hi : (F.enc a)[i]? = some v) : w.cell? ⟨g, j * F.k + i, none⟩ = some v := by
  obtain ⟨A', c', hv, hr, _⟩ := h.form
  cases hv
  obtain ⟨_, _, e, _, hc⟩ := hr.cells (by have := (List.getElem?_eq_some_iff.1 hj).1; omega)
  cases e
  have := hc j i a v hj hi
  rwa [Nat.zero_add] at this
theorem OwnF.there {g n c j i : Nat} (h : OwnF F w lo (.slice (some ⟨g, 0, none⟩) n c) xs) (hj : j < xs.length) (hi : i < F.k) : ∃ v, w.cell? ⟨g, j * F.k + i, none⟩ = some v :=
  ⟨_, h.cell (List.getElem?_eq_getElem hj) (List.getElem?_eq_getElem (by rw [F.len]; exact hi))⟩
theorem OwnF.frozen {g n c : Nat} (h : OwnF F w lo (.slice (some ⟨g, 0, none⟩) n c) xs) (j : Nat) : w.frozen? ⟨g, j, none⟩ = false := by
  obtain ⟨A', c', hv, _, _⟩ := h.form
  cases hv
  exact h.1.frozenAt j
theorem take_step {ys xs : List α} {k : Nat} {a : α} (hx : xs[k]? = some a) (hl : ys.length = xs.length) (h : ys.take k = xs.take k) : (ys.set k a).take (k + 1) = xs.take (k + 1) := by
  obtain ⟨hk, rfl⟩ := List.getElem?_eq_some_iff.1 hx
  rw [List.take_set, List.take_succ_eq_append_getElem (by omega), List.take_succ_eq_append_getElem hk, h, List.set_append, if_neg (by simp; omega), List.length_take]
  simp [Nat.min_eq_left (Nat.le_of_lt hk)]
theorem row_all {w w' : World} {base n size : Nat} {e : TypeId} {v : Value} {xs : List Value} (h : w.ownsRow base e size v n xs) (hb : Below w.heap.size w w') : w'.ownsRow base e size v n xs := by
  refine ⟨h.1, ?_⟩
  rcases h.2 with h0 | ⟨g, cap, cur, rfl, hbb, hg, r⟩
  · exact .inl h0
  · exact .inr ⟨g, cap, cur, rfl, hbb, (hb.block g (Array.getElem?_eq_some_iff.1 hg).1).trans hg, r⟩
theorem row_there {w : World} {base g cap n size j : Nat} {e : TypeId} {xs : List Value} (h : w.ownsRow base e size (.slice (some ⟨g, 0, none⟩) n cap) n xs) (hj : j < n * size) : ∃ y, w.cell? ⟨g, j, none⟩ = some y :=
  ⟨_, (h.cellAt j hj).trans (List.getElem?_eq_getElem (by rw [h.1]; exact hj))⟩
theorem grown_then {a b c : World} {row : Option Nat} (h : a.grownBy b row) (k : Below b.heap.size b c) : a.grownBy c row :=
  ⟨k.os.trans h.os, k.tape.trans h.tape, k.output.trans h.output, Nat.le_trans h.size k.size, fun i hi hne => (k.block i (Nat.lt_of_lt_of_le hi h.size)).trans (h.block i hi hne)⟩
/-- A list as a copy of the slice's own. -/
def CopiedF (F : Flat α) (w : World) (xs : List α) (e : Ending) (w' : World) : Prop :=
  ∃ g, e = .returned (.slice (some ⟨g, 0, none⟩) xs.length xs.length) ∧ OwnF F w' w.heap.size (.slice (some ⟨g, 0, none⟩) xs.length xs.length) xs ∧ Below w.heap.size w w'
/-- What a call leaves that answers a slice of its own and a yes or no. -/
def OutF (F : Flat α) (w : World) (ys : List α) (b : Bool) (e : Ending) (w' : World) : Prop :=
  ∃ A c, e = .returned (.tuple #[.slice A ys.length c, .bool b]) ∧ OwnF F w' w.heap.size (.slice A ys.length c) ys ∧ Below w.heap.size w w'
/-- .. and a number between. -/
def OutFib (F : Flat α) (w : World) (ys : List α) (m : Int) (b : Bool) (e : Ending) (w' : World) : Prop :=
  ∃ A c, e = .returned (.tuple #[.slice A ys.length c, .int .i64 m, .bool b]) ∧ OwnF F w' w.heap.size (.slice A ys.length c) ys ∧ Below w.heap.size w w'
end
end Go.Proofs.Ytpmhnklmhfadlaa
namespace Go.Proofs.Ytpmhnklmhfadlaa
open Go.RowKit

section
variable {α : Type} {F : Flat α} {w : World}
theorem flat_one (F : Flat α) (xs : List α) : ∀ u ∈ xs.flatMap F.enc, u.oneCell' = true := by
  intro u hu
  obtain ⟨a, _, ha⟩ := List.mem_flatMap.1 hu
  exact F.one a u ha
/-- The cells of a slice, one after the other. -/
theorem RdF.flat {B n c b off : Nat} {xs : List α} (h : RdF F w B (some ⟨b, off, none⟩) n c xs) (hk : 0 < F.k) : ∀ j u, (xs.flatMap F.enc)[j]? = some u → w.cell? ((⟨b, off, none⟩ : Addr).add j) = some u := by
  intro j u hu
  have hl := h.len
  have ea : (⟨b, off, none⟩ : Addr).add j = ⟨b, off + j, none⟩ := by unfold Addr.add; split <;> simp_all
  rw [ea]
  have hj : j < n * F.k := by have := (List.getElem?_eq_some_iff.1 hu).1; rwa [flat_len F.len, hl] at this
  have hq : j / F.k < n := Nat.div_lt_of_lt_mul (by rw [Nat.mul_comm]; exact hj)
  have hql : j / F.k < xs.length := by rw [hl]; exact hq
  have hm := Nat.mod_lt j hk
  have e : j = j / F.k * F.k + j % F.k := by rw [Nat.mul_comm]; exact (Nat.div_add_mod j F.k).symm
  obtain ⟨_, _, e', _, hc⟩ := h.cells (Nat.lt_of_le_of_lt (Nat.zero_le _) hq)
  cases e'
  have hx : xs[j / F.k]? = some (xs[j / F.k]'hql) := List.getElem?_eq_getElem hql
  have hu' : (F.enc (xs[j / F.k]'hql))[j % F.k]? = some u := by
    rw [← flat_get F.len hx hm, ← e]; exact hu
  have := hc _ _ _ _ hx hu'
  rwa [← e] at this
/-- A literal of one element. -/
theorem RdF.lit {w : World} {cs : Array Value} {a : α} (e : cs.toList = F.enc a) (ha : F.ok a) : RdF F (w.alloc (.cells cs F.t)) (w.heap.size + 1) (some ⟨w.heap.size, 0, none⟩) 1 1 [a] := by
  refine ⟨rfl, Nat.le_refl _, by unfold maxLen; omega, fun _ => ⟨w.heap.size, 0, rfl, by omega, fun j i x v hj hi => ?_⟩, fun x hx => ?_, fun h => by cases h⟩
  · have hj0 : j = 0 := by
      have := (List.getElem?_eq_some_iff.1 hj).1
      simp at this; omega
    subst hj0
    simp at hj
    subst hj
    rw [(Blk.new w cs F.t).cell, Nat.zero_mul, Nat.zero_add, Nat.zero_add, ← Array.getElem?_toList, e]
    exact hi
  · simp at hx; subst hx; exact ha
end
theorem wp_appendF {α : Type} (F : Flat α) {P : Program} {o : Oper} {a : Act} {K : Act → World → Prop} {Q : Exit → Act → World → Prop} (w : World) (s x : Operand) (T : TypeId) (z : Value) (bytes : Nat)
    (ho : o.op = .call { callee := .builtin .append, args := #[s, x], argTypes := #[T, T] }) (ht : P.underlying T = some (.slice F.t)) (hinfo : (P.info? F.t).map (fun i => (i.zero, i.size, i.bytes)) = some (some z, F.k, bytes))
    (hzs : z.cells.size = F.k) (hk : 0 < F.k) (hby : bytes ≤ 1024)
    (lo : Nat) (v : Value) (xs ys : List α) (b off m c B : Nat)
    (hs : a.eval s = v) (hx : a.eval x = .slice (some ⟨b, off, none⟩) m c) (hown : OwnF F w lo v xs) (hy : RdF F w B (some ⟨b, off, none⟩) m c ys) (hlen : xs.length + ys.length ≤ 1073741824) (hlo : lo ≤ w.heap.size)
    (h : ∀ A' c' w', OwnF F w' lo (.slice A' (xs.length + ys.length) c') (xs ++ ys) → w.grownBy w' v.ownBlock → K (a.put o.dst (.slice A' (xs.length + ys.length) c')) w') :
    o.wp P a w K Q := by
  obtain ⟨i0, hi, hz0, hz1, hz2⟩ := info_parts hinfo
  obtain rfl := hy.len
  have hbb : (xs.length + ys.length) * bytes ≤ 1073741824 * 1024 := Nat.mul_le_mul hlen hby
  refine wp_append_own _ s x T ho lo F.t i0 z F.k bytes ht hi hz0 hz1 hz2 hzs hk v xs.length _ hs hown.1 ⟨b, off, none⟩ ys.length c (ys.flatMap F.enc) hx (flat_len F.len _) (hy.flat hk) (flat_one F ys) (by unfold maxLen; omega) (by omega) hlo ?_
  intro v' w' ho' hg' _
  have hO : OwnF F w' lo v' (xs ++ ys) := ⟨by rw [List.flatMap_append, List.length_append]; exact ho', fun y hy' => by
    rcases List.mem_append.1 hy' with hy' | hy'
    · exact hown.2 y hy'
    · exact hy.fits y hy'⟩
  obtain ⟨A', c', rfl, _, _⟩ := hO.form
  rw [List.length_append] at hO
  have := h A' c' w' hO hg'
  rwa [List.length_append]
theorem wpList_appendF {α : Type} (F : Flat α) {P : Program} {ops : Array Oper} {rest : List Oper} {o : Oper} {a : Act} {Q : Exit → Act → World → Prop} (hgd : o.guard = none) (w : World) (s x : Operand) (T : TypeId) (z : Value) (bytes : Nat)
    (ho : o.op = .call { callee := .builtin .append, args := #[s, x], argTypes := #[T, T] }) (ht : P.underlying T = some (.slice F.t)) (hinfo : (P.info? F.t).map (fun i => (i.zero, i.size, i.bytes)) = some (some z, F.k, bytes))
    (hzs : z.cells.size = F.k) (hk : 0 < F.k) (hby : bytes ≤ 1024)
    (lo : Nat) (v : Value) (xs ys : List α) (b off m c B : Nat)
    (hs : a.eval s = v) (hx : a.eval x = .slice (some ⟨b, off, none⟩) m c) (hown : OwnF F w lo v xs) (hy : RdF F w B (some ⟨b, off, none⟩) m c ys) (hlen : xs.length + ys.length ≤ 1073741824) (hlo : lo ≤ w.heap.size)
    (h : ∀ A' c' w', OwnF F w' lo (.slice A' (xs.length + ys.length) c') (xs ++ ys) → w.grownBy w' v.ownBlock → wpList P ops Q rest (a.put o.dst (.slice A' (xs.length + ys.length) c')) w') :
    wpList P ops Q (o :: rest) a w :=
  wpList_plain hgd fun _ hK => wp_appendF F w s x T z bytes ho ht hinfo hzs hk hby lo v xs ys b off m c B hs hx hown hy hlen hlo fun A' c' w' h5 h6 => hK _ _ (h A' c' w' h5 h6)
end Go.Proofs.Ytpmhnklmhfadlaa
namespace Go.Proofs.Ytpmhnklmhfadlaa
open Go.RowKit

theorem wp_append_one {P : Program} {o : Oper} {a : Act} {K : Act → World → Prop} {Q : Exit → Act → World → Prop} (w : World) (s x : Operand) (T : TypeId)
    (ho : o.op = .call { callee := .builtin .append, args := #[s, x], argTypes := #[T, T] }) (ht : P.underlying T = some (.slice 3)) (hinfo : (P.info? 3).map (fun i => (i.zero, i.size, i.bytes)) = some (some (.int .i64 0), 1, 8))
    (lo n : Nat) (v : Value) (xs : List Int) (q : Int) (hn : xs.length = n)
    (hs : a.eval s = v) (hx : a.eval x = .slice (some ⟨w.heap.size, 0, none⟩) 1 1) (hown : Own w lo v xs) (hlen : n ≤ 1073741824) (hq : I64 q) (hlo : lo ≤ w.heap.size)
    (h : ∀ A' c' w', Own w' lo (.slice A' (n + 1) c') (xs ++ [q]) → w.grownBy w' v.ownBlock → K (a.put o.dst (.slice A' (n + 1) c')) w') :
    o.wp P a (w.alloc (.cells #[.int .i64 q] 3)) K Q := by
  subst hn
  obtain ⟨i0, hi, hz0, hz1, hz2⟩ := info_parts hinfo
  refine wp_append_own _ s x T ho lo 3 i0 (.int .i64 0) 1 8 ht hi hz0 hz1 hz2 rfl (by decide) v xs.length _ hs (hown.alloc _).1 ⟨w.heap.size, 0, none⟩ 1 1 [.int .i64 q] hx rfl ?_ ?_ ?_ ?_ ?_ ?_
  · intro j u hj
    match j, hj with
    | 0, hj =>
      simp at hj; subst hj
      exact (Blk.new w #[.int .i64 q] 3).cell 0
  · intro u hu; simp at hu; subst hu; rfl
  · unfold maxLen; omega
  · omega
  · simp; omega
  · intro v' w' ho' hg' _
    have hO : Own w' lo v' (xs ++ [q]) := ⟨by simpa using ho', fun y hy => by
      rcases List.mem_append.1 hy with hy | hy
      · exact hown.2 y hy
      · simp at hy; subst hy; exact hq⟩
    obtain ⟨A', c', rfl, _, _⟩ := hO.form
    rw [List.length_append] at hO
    have := h A' c' w' hO ⟨hg'.os, hg'.tape, hg'.output, Nat.le_trans (by simp) hg'.size, fun k hk hne => (hg'.block k (by simp; omega) hne).trans (Below.heap_alloc w _ k hk)⟩
    rwa [List.length_append]
theorem step_append_one {P : Program} {ops : Array Oper} {o : Oper} {a : Act} {K : Act → World → Prop} {Q : Exit → Act → World → Prop} {E : Prop} (w : World) (hgd : o.guard = none) (s x : Operand) (T : TypeId)
    (ho : o.op = .call { callee := .builtin .append, args := #[s, x], argTypes := #[T, T] }) (ht : P.underlying T = some (.slice 3)) (hinfo : (P.info? 3).map (fun i => (i.zero, i.size, i.bytes)) = some (some (.int .i64 0), 1, 8))
    (lo n : Nat) (v : Value) (xs : List Int) (q : Int) (hn : xs.length = n)
    (hs : a.eval s = v) (hx : a.eval x = .slice (some ⟨w.heap.size, 0, none⟩) 1 1) (hown : Own w lo v xs) (hlen : n ≤ 1073741824) (hq : I64 q) (hlo : lo ≤ w.heap.size)
    (h : ∀ A' c' w', Own w' lo (.slice A' (n + 1) c') (xs ++ [q]) → w.grownBy w' v.ownBlock → K (a.put o.dst (.slice A' (n + 1) c')) w') :
    if Region.wanted o (yielded ops a.tmps) = true then Oper.wp P o a (w.alloc (.cells #[.int .i64 q] 3)) K Q else E := by
  rw [if_pos (show Region.wanted o (yielded ops a.tmps) = true by simp [Region.wanted, hgd])]
  exact wp_append_one w s x T ho ht hinfo lo n v xs q hn hs hx hown hlen hq hlo h
/-- copy into a row of the call's own, as one step of a region that draws its order. -/
theorem step_copy_row {P : Program} {ops : Array Oper} {o : Oper} {a : Act} {w : World} {K : Act → World → Prop} {Q : Exit → Act → World → Prop} {E : Prop} (hgd : o.guard = none) (d s : Operand) (dT sT : TypeId)
    (ho : o.op = .call { callee := .builtin .copy, args := #[d, s], argTypes := #[dT, sT] }) (elem : TypeId) (hu : P.underlying dT = some (.slice elem)) (hsz : (P.info? elem).map (·.size) = some 1)
    (g off : Nat) (dLen dCap : Nat) (ad : Addr) (sLen sCap : Nat) (hd : a.eval d = .slice (some ⟨g, off, none⟩) dLen dCap) (hs : a.eval s = .slice (some ad) sLen sCap)
    (cur : List Value) (t : TypeId) (hg : Blk w g t cur.toArray) (cs : List Value) (hn : cs.length = Nat.min sLen dLen)
    (hsrc : ∀ j v, cs[j]? = some v → w.cell? (ad.add j) = some v) (hfit : off + cs.length ≤ cur.length) (h1 : ∀ v ∈ cs, v.oneCell' = true)
    (h : ∀ w', Blk w' g t (splice cur off cs).toArray → w.grownBy w' (some g) → K (a.put o.dst (goInt cs.length)) w') :
    if Region.wanted o (yielded ops a.tmps) = true then Oper.wp P o a w K Q else E := by
  rw [if_pos (show Region.wanted o (yielded ops a.tmps) = true by simp [Region.wanted, hgd])]
  have hrun := run_copy_row (P := P) w dT sT o.type elem g off dLen dCap ad sLen sCap cur.toArray t cs hu hsz hg hn hsrc (by simpa using hfit) h1
  unfold Oper.wp
  simp [execOp, ho, resolve, invoke, builtin, hd, hs, hrun, Result.andThen]
  exact h _ (show _ = _ by simpa [splice] using setRow_heap w g _ _ t _ hg) ⟨rfl, rfl, rfl, by simp [World.setRow], fun k _ hk => setRow_other w g k _ (fun e => hk (by rw [e]))⟩
end Go.Proofs.Ytpmhnklmhfadlaa
namespace Go.Proofs.Ytpmhnklmhfadlaa
open Go.RowKit

theorem splice_at {α : Type} (L cs : List α) (off k : Nat) (h : off + cs.length ≤ L.length) : (splice L off cs)[k]? = if k < off then L[k]? else if k < off + cs.length then cs[k - off]? else L[k]? := by
  unfold splice
  simp only [List.getElem?_append, List.length_take, List.getElem?_take, List.getElem?_drop]
  rw [Nat.min_eq_left (by omega)]
  by_cases c1 : k < off
  · rw [if_pos c1, if_pos c1, if_pos c1]
  · rw [if_neg c1, if_neg c1]
    by_cases c2 : k - off < cs.length
    · rw [if_pos c2, if_pos (by omega)]
    · rw [if_neg c2, if_neg (by omega)]
      congr 1
      omega
theorem splice_take {α : Type} (L cs : List α) (off n : Nat) (h : off + cs.length ≤ n) (hn : n ≤ L.length) : (splice L off cs).take n = splice (L.take n) off cs := by
  apply List.ext_getElem?
  intro k
  rw [List.getElem?_take, splice_at _ _ _ _ (by omega), splice_at _ _ _ _ (by rw [List.length_take]; omega), List.getElem?_take]
  by_cases c1 : k < n
  · rw [if_pos c1, if_pos c1]
  · rw [if_neg c1, if_neg c1, if_neg (by omega), if_neg (by omega)]
theorem splice_map {α β : Type} (f : α → β) (L cs : List α) (off : Nat) : splice (L.map f) off (cs.map f) = (splice L off cs).map f := by
  simp [splice, List.map_take, List.map_drop]
theorem splice_mem {α : Type} {L cs : List α} {off : Nat} {x : α} (h : x ∈ splice L off cs) : x ∈ L ∨ x ∈ cs := by
  unfold splice at h
  rcases List.mem_append.1 h with h | h
  · exact .inl (List.mem_of_mem_take h)
  · rcases List.mem_append.1 h with h | h
    · exact .inr h
    · exact .inl (List.mem_of_mem_drop h)
theorem step_copy_own {P : Program} {ops : Array Oper} {o : Oper} {a : Act} {w : World} {K : Act → World → Prop} {Q : Exit → Act → World → Prop} {E : Prop} (hgd : o.guard = none) (d s : Operand) (dT sT : TypeId)
    (ho : o.op = .call { callee := .builtin .copy, args := #[d, s], argTypes := #[dT, sT] }) (hu : P.underlying dT = some (.slice 3)) (hsz : (P.info? 3).map (·.size) = some 1)
    (lo g off n c : Nat) (dLen dCap : Nat) (ad : Addr) (sLen sCap : Nat) (hd : a.eval d = .slice (some ⟨g, off, none⟩) dLen dCap) (hs : a.eval s = .slice (some ad) sLen sCap)
    (zs row : List Int) (hown : Own w lo (.slice (some ⟨g, 0, none⟩) n c) zs) (hn : row.length = Nat.min sLen dLen)
    (hsrc : ∀ j v, (row.map (Value.int .i64))[j]? = some v → w.cell? (ad.add j) = some v) (hfit : off + row.length ≤ zs.length) (hI : ∀ x ∈ row, I64 x)
    (h : ∀ w', Own w' lo (.slice (some ⟨g, 0, none⟩) n c) (splice zs off row) → w.grownBy w' (some g) → K (a.put o.dst (goInt row.length)) w') :
    if Region.wanted o (yielded ops a.tmps) = true then Oper.wp P o a w K Q else E := by
  have hlen : (splice zs off row).length = zs.length := length_splice _ _ _ hfit
  rcases hown.1.2 with ⟨h', _⟩ | ⟨g', cap, cur, h', hb, hg, hle, hm, hs', ht⟩
  · cases h'
  · simp only [Value.slice.injEq, Option.some.injEq, Addr.mk.injEq, and_true] at h'
    obtain ⟨rfl, hn', rfl⟩ := h'
    have hcl : cur.toList.length = c := by rw [Array.length_toList]; omega
    refine step_copy_row hgd d s dT sT ho 3 hu hsz g off dLen dCap ad sLen sCap hd hs cur.toList 3 (by unfold Blk; simpa using hg) (row.map (Value.int .i64)) (by rw [List.length_map]; exact hn) hsrc (by rw [List.length_map, hcl]; omega) (ints_oneCell _ _) ?_
    intro w' hB hgr
    rw [List.length_map]
    refine h w' ⟨⟨by simp [hlen], .inr ⟨g, c, _, by rw [hn', hlen], hb, hB, by rw [hlen]; exact hle, hm, ?_, ?_⟩⟩, ?_⟩ hgr
    · rw [List.size_toArray, length_splice _ _ _ (by rw [List.length_map, hcl]; omega), hcl]; omega
    · rw [List.toList_toArray, hlen, splice_take _ _ _ _ (by rw [List.length_map]; omega) (by rw [hcl]; omega), ht, splice_map]
    · intro x hx
      rcases splice_mem hx with hx | hx
      · exact hown.2 x hx
      · exact hI x hx
end Go.Proofs.Ytpmhnklmhfadlaa
namespace Go.Proofs.Ytpmhnklmhfadlaa
open Go.RowKit

theorem run_copy_rowK {P : Program} (w : World) (dT sT ty elem : TypeId) (k g o dLen dCap : Nat) (a : Addr) (sLen sCap m : Nat) (cur : Array Value) (t : TypeId) (cs : List Value)
    (hu : P.underlying dT = some (.slice elem)) (hs : (P.info? elem).map (·.size) = some k)
    (hg : w.heap[g]? = some (.cells cur t (0, 0))) (hm : Nat.min sLen dLen = m) (hn : cs.length = m * k)
    (hsrc : ∀ j v, cs[j]? = some v → w.cell? (a.add j) = some v) (hfit : o + cs.length ≤ cur.size) (h1 : ∀ v ∈ cs, v.oneCell' = true) :
    (Builtin.copy_ #[dT, sT] ty #[.slice (some ⟨g, o, none⟩) dLen dCap, .slice (some a) sLen sCap]).run P w =
      .ok (goInt m) (w.setRow g (cur.toList.take o ++ cs ++ cur.toList.drop (o + cs.length)).toArray) := by
  have hl := run_loadCells_list (P := P) w a cs hsrc
  have hst := run_storeCells_at P g o t cs 0 cur w hg (by simpa using hfit) h1
  cases hq : P.info? elem with
  | none => simp [hq] at hs
  | some i =>
    have hi : i.size = k := by simpa [hq] using hs
    simp [Builtin.copy_, run_underlying hu, Builtin.lenOf, Builtin.firstCells, sizeOf, typeInfo, hq, hi, hm, ← hn, hl, hst]
section
variable {α : Type} {F : Flat α}
theorem splice_flat {enc : α → List Value} {k : Nat} (h : ∀ a, (enc a).length = k) (zs row : List α) (i : Nat) :
    splice (zs.flatMap enc) (i * k) (row.flatMap enc) = (splice zs i row).flatMap enc := by
  unfold splice
  rw [List.flatMap_append, List.flatMap_append, flat_take h, flat_len h, ← Nat.add_mul, flat_drop h]
/-- What a copy of elements leaves. -/
theorem run_copyF {P : Program} (F : Flat α) (w : World) (dT sT ty : TypeId) (hu : P.underlying dT = some (.slice F.t)) (hsz : (P.info? F.t).map (·.size) = some F.k) (hk : 0 < F.k)
    (lo g c i : Nat) (dLen dCap sLen sCap m b off B : Nat) (zs ys row : List α) (hown : OwnF F w lo (.slice (some ⟨g, 0, none⟩) zs.length c) zs)
    (hy : RdF F w B (some ⟨b, off, none⟩) sLen sCap ys) (hm : Nat.min sLen dLen = m) (hrow : row = ys.take m) (hfit : i + m ≤ zs.length) :
    ∃ w', (Builtin.copy_ #[dT, sT] ty #[.slice (some ⟨g, i * F.k, none⟩) dLen dCap, .slice (some ⟨b, off, none⟩) sLen sCap]).run P w = .ok (goInt m) w' ∧
      OwnF F w' lo (.slice (some ⟨g, 0, none⟩) zs.length c) (splice zs i row) ∧ w.grownBy w' (some g) := by
  subst hrow
  have hms : m ≤ sLen := by rw [← hm]; exact Nat.min_le_left _ _
  have hl := hy.len
  have hrl : (ys.take m).length = m := by rw [List.length_take]; omega
  have hR := hy.head (q := m) hms
  rcases hown.1.2 with ⟨h', _⟩ | ⟨g', cap, cur, h', hb, hg, hle, hmx, hs', ht⟩
  · cases h'
  · simp only [Value.slice.injEq, Option.some.injEq, Addr.mk.injEq, and_true, true_and] at h'
    obtain ⟨rfl, rfl⟩ := h'
    have hcl : cur.toList.length = c * F.k := by rw [Array.length_toList]; omega
    have hcs : ((ys.take m).flatMap F.enc).length = m * F.k := by rw [flat_len F.len, hrl]
    have hf1 : (i + m) * F.k ≤ zs.length * F.k := Nat.mul_le_mul_right _ hfit
    have hf2 : zs.length * F.k ≤ c * F.k := Nat.mul_le_mul_right _ hle
    rw [Nat.add_mul] at hf1
    have hlz : (splice zs i (ys.take m)).length = zs.length := length_splice _ _ _ (by rw [hrl]; exact hfit)
    refine ⟨_, run_copy_rowK w dT sT ty F.t F.k g (i * F.k) dLen dCap ⟨b, off, none⟩ sLen sCap m cur _ ((ys.take m).flatMap F.enc) hu hsz hg hm hcs (fun j v hv => ?_) (by rw [hcs, ← Array.length_toList, hcl]; omega) (flat_one F _), ⟨⟨by rw [flat_len F.len], ?_⟩, ?_⟩, ⟨rfl, rfl, rfl, by simp [World.setRow], fun k _ hk => setRow_other w g k _ (fun e => hk (by rw [e]))⟩⟩
    · exact hR.flat hk j v hv
    · refine .inr ⟨g, c, _, by rw [hlz], hb, setRow_heap w g _ _ _ _ hg, by rw [hlz]; exact hle, hmx, ?_, ?_⟩
      · have e := length_splice cur.toList (i * F.k) ((ys.take m).flatMap F.enc) (by rw [hcs, hcl]; omega)
        unfold splice at e
        rw [List.append_assoc, List.size_toArray, e, hcl]
      · have e := splice_take cur.toList ((ys.take m).flatMap F.enc) (i * F.k) (zs.length * F.k) (by rw [hcs]; omega) (by rw [hcl]; omega)
        unfold splice at e
        rw [List.append_assoc, List.toList_toArray, hlz, e, ht]
        exact splice_flat F.len zs (ys.take m) i
    · intro x hx
      rcases splice_mem hx with hx | hx
      · exact hown.2 x hx
      · exact hy.fits x (List.mem_of_mem_take hx)
theorem wpList_copyF {P : Program} (F : Flat α) {ops : Array Oper} {rest : List Oper} {o : Oper} {a : Act} {Q : Exit → Act → World → Prop} (hgd : o.guard = none) (w : World) (d s : Operand) (dT sT : TypeId)
    (ho : o.op = .call { callee := .builtin .copy, args := #[d, s], argTypes := #[dT, sT] }) (hu : P.underlying dT = some (.slice F.t)) (hsz : (P.info? F.t).map (·.size) = some F.k) (hk : 0 < F.k)
    (lo g n c i at_ : Nat) (dLen dCap sLen sCap m b off B : Nat) (zs ys row : List α) (hd : a.eval d = .slice (some ⟨g, at_, none⟩) dLen dCap) (hs : a.eval s = .slice (some ⟨b, off, none⟩) sLen sCap) (hat : at_ = i * F.k) (hzn : zs.length = n) (hown : OwnF F w lo (.slice (some ⟨g, 0, none⟩) n c) zs)
    (hy : RdF F w B (some ⟨b, off, none⟩) sLen sCap ys) (hm : Nat.min sLen dLen = m) (hrow : row = ys.take m) (hfit : i + m ≤ zs.length)
    (h : ∀ w', OwnF F w' lo (.slice (some ⟨g, 0, none⟩) n c) (splice zs i row) → w.grownBy w' (some g) → wpList P ops Q rest (a.put o.dst (goInt m)) w') :
    wpList P ops Q (o :: rest) a w := by
  subst hat
  subst hzn
  refine wpList_plain hgd fun K hK => ?_
  obtain ⟨w', hrun, h1, h2⟩ := run_copyF (P := P) F w dT sT o.type hu hsz hk lo g c i dLen dCap sLen sCap m b off B zs ys row hown hy hm hrow hfit
  unfold Oper.wp
  simp [execOp, ho, resolve, invoke, builtin, hd, hs, hrun, Result.andThen]
  exact hK _ _ (h w' h1 h2)
theorem step_copyF {P : Program} (F : Flat α) {ops : Array Oper} {o : Oper} {a : Act} {w : World} {K : Act → World → Prop} {Q : Exit → Act → World → Prop} {E : Prop} (hgd : o.guard = none) (d s : Operand) (dT sT : TypeId)
    (ho : o.op = .call { callee := .builtin .copy, args := #[d, s], argTypes := #[dT, sT] }) (hu : P.underlying dT = some (.slice F.t)) (hsz : (P.info? F.t).map (·.size) = some F.k) (hk : 0 < F.k)
    (lo g n c i at_ : Nat) (dLen dCap sLen sCap m b off B : Nat) (zs ys row : List α) (hd : a.eval d = .slice (some ⟨g, at_, none⟩) dLen dCap) (hs : a.eval s = .slice (some ⟨b, off, none⟩) sLen sCap) (hat : at_ = i * F.k) (hzn : zs.length = n) (hown : OwnF F w lo (.slice (some ⟨g, 0, none⟩) n c) zs)
    (hy : RdF F w B (some ⟨b, off, none⟩) sLen sCap ys) (hm : Nat.min sLen dLen = m) (hrow : row = ys.take m) (hfit : i + m ≤ zs.length)
    (h : ∀ w', OwnF F w' lo (.slice (some ⟨g, 0, none⟩) n c) (splice zs i row) → w.grownBy w' (some g) → K (a.put o.dst (goInt m)) w') :
    if Region.wanted o (yielded ops a.tmps) = true then Oper.wp P o a w K Q else E := by
  subst hat
  subst hzn
  rw [if_pos (show Region.wanted o (yielded ops a.tmps) = true by simp [Region.wanted, hgd])]
  obtain ⟨w', hrun, h1, h2⟩ := run_copyF (P := P) F w dT sT o.type hu hsz hk lo g c i dLen dCap sLen sCap m b off B zs ys row hown hy hm hrow hfit
  unfold Oper.wp
  simp [execOp, ho, resolve, invoke, builtin, hd, hs, hrun, Result.andThen]
  exact h w' h1 h2
end
/-- Numbers. -/
def intF : Flat Int := { t := 3, k := 1, enc := fun x => [.int .i64 x], ok := I64, len := fun _ => rfl, one := fun s v h => by simp only [List.mem_cons, List.not_mem_nil, or_false] at h; subst h; rfl }
theorem intF_map (xs : List Int) : xs.flatMap intF.enc = xs.map (Value.int .i64) := by
  induction xs with
  | nil => rfl
  | cons x xs ih => rw [List.flatMap_cons, ih]; rfl
theorem Own.toF {w : World} {lo : Nat} {v : Value} {xs : List Int} (h : Own w lo v xs) : OwnF intF w lo v xs := ⟨by rw [intF_map]; exact h.1, h.2⟩
theorem OwnF.toI {w : World} {lo : Nat} {v : Value} {xs : List Int} (h : OwnF intF w lo v xs) : Own w lo v xs := ⟨by have := h.1; rw [intF_map] at this; exact this, h.2⟩
theorem Rd.toF {w : World} {B n c : Nat} {A : Option Addr} {xs : List Int} (h : Rd w B A n c xs) : RdF intF w B A n c xs := by
  refine ⟨h.len, h.cap, h.max, fun hn => ?_, h.fits, h.nil⟩
  obtain ⟨b, off, e, hb, hc⟩ := h.cells hn
  refine ⟨b, off, e, hb, fun j i a v hj hi => ?_⟩
  obtain ⟨hjl, rfl⟩ := List.getElem?_eq_some_iff.1 hj
  have hi0 : i = 0 := by have := (List.getElem?_eq_some_iff.1 hi).1; simp [intF] at this; exact this
  subst hi0
  simp [intF] at hi
  subst hi
  have := hc j (by rw [← h.len]; exact hjl)
  rw [getD_at hjl] at this
  simpa [intF] using this
end Go.Proofs.Ytpmhnklmhfadlaa
namespace Go.Proofs.Ytpmhnklmhfadlaa
open Go.RowKit

/-- A list some times over. -/
def repT {α : Type} (xs : List α) (m : Nat) : List α := (List.replicate m xs).flatten
section
variable {α : Type} {xs zs : List α} {m q : Nat}
theorem repT_succ : repT xs (m + 1) = xs ++ repT xs m := by unfold repT; rw [List.replicate_succ, List.flatten_cons]
theorem repT_len : (repT xs m).length = m * xs.length := by
  induction m with
  | zero => simp [repT]
  | succ m ih => rw [repT_succ, List.length_append, ih, Nat.succ_mul, Nat.add_comm]
theorem repT_at : ∀ (m j : Nat), j < m * xs.length → (repT xs m)[j]? = xs[j % xs.length]?
  | 0, j, h => by simp at h
  | m + 1, j, h => by
    rw [repT_succ]
    by_cases hj : j < xs.length
    · rw [List.getElem?_append_left hj, Nat.mod_eq_of_lt hj]
    · rw [List.getElem?_append_right (by omega), repT_at m (j - xs.length) (by rw [Nat.succ_mul] at h; omega)]
      congr 1
      conv => rhs; rw [show j = j - xs.length + xs.length by omega, Nat.add_mod_right]
theorem repT_mem {x : α} (h : x ∈ repT xs m) : x ∈ xs := by
  unfold repT at h
  obtain ⟨l, hl, hx⟩ := List.mem_flatten.1 h
  rw [List.mem_replicate] at hl
  rwa [hl.2] at hx
/-- The first q places of a row that is being filled stand. -/
def RepTo (xs : List α) (m q : Nat) (zs : List α) : Prop := zs.length = m * xs.length ∧ (∃ d, q = d * xs.length ∨ q = m * xs.length) ∧ q ≤ m * xs.length ∧ zs.take q = (repT xs m).take q
theorem rep_end (h : RepTo xs m (m * xs.length) zs) : zs = repT xs m := by
  have := h.2.2.2
  rwa [List.take_of_length_le (by rw [h.1]; exact Nat.le_refl _), List.take_of_length_le (by rw [repT_len]; exact Nat.le_refl _)] at this
theorem rep_at (h : RepTo xs m q zs) {j : Nat} (hj : j < q) : zs[j]? = xs[j % xs.length]? := by
  have h1 := congrArg (fun l => l[j]?) h.2.2.2
  simp only [List.getElem?_take, if_pos hj] at h1
  rw [h1]
  exact repT_at m j (Nat.lt_of_lt_of_le hj h.2.2.1)
/-- A row is copied on behind itself. -/
theorem rep_step (h : RepTo xs m q zs) {d p : Nat} (hq : q = d * xs.length) (hp : p ≤ q) (hpm : p = q ∨ q + p = m * xs.length) (hl : q + p ≤ m * xs.length) : RepTo xs m (q + p) (splice zs q (zs.take p)) := by
  have hz := h.1
  have hrl : (zs.take p).length = p := by rw [List.length_take]; omega
  have hsl : (splice zs q (zs.take p)).length = zs.length := length_splice _ _ _ (by rw [hrl]; omega)
  refine ⟨hsl.trans hz, ?_, hl, ?_⟩
  · rcases hpm with rfl | e
    · exact ⟨d + d, .inl (by rw [hq, Nat.add_mul])⟩
    · exact ⟨0, .inr e⟩
  · apply List.ext_getElem?
    intro j
    rw [List.getElem?_take, List.getElem?_take]
    by_cases hj : j < q + p
    · rw [if_pos hj, if_pos hj, repT_at m j (by omega), splice_at _ _ _ _ (by rw [hrl]; omega), hrl]
      by_cases h1 : j < q
      · rw [if_pos h1]; exact rep_at h h1
      · rw [if_neg h1, if_pos hj, List.getElem?_take, if_pos (by omega), rep_at h (by omega)]
        congr 1
        conv => rhs; rw [show j = j - q + d * xs.length by omega, Nat.add_mul_mod_self_right]
    · rw [if_neg hj, if_neg hj]
theorem rep_first (hz : zs.length = m * xs.length) (hm : 1 ≤ m) : RepTo xs m xs.length (splice zs 0 xs) := by
  have hle : 1 * xs.length ≤ m * xs.length := Nat.mul_le_mul_right _ hm
  have hsl : (splice zs 0 xs).length = zs.length := length_splice _ _ _ (by omega)
  refine ⟨hsl.trans hz, ⟨1, .inl (by omega)⟩, by omega, ?_⟩
  apply List.ext_getElem?
  intro j
  rw [List.getElem?_take, List.getElem?_take]
  by_cases hj : j < xs.length
  · rw [if_pos hj, if_pos hj, repT_at m j (by omega), splice_at _ _ _ _ (by omega), if_neg (by omega), if_pos (by omega), Nat.mod_eq_of_lt hj, Nat.sub_zero]
  · rw [if_neg hj, if_neg hj]
end
end Go.Proofs.Ytpmhnklmhfadlaa
namespace Go.Proofs.Ytpmhnklmhfadlaa
open Go.RowKit

structure SlR where
  A : Option Addr
  n : Nat
  c : Nat
def sliF : Flat SlR := { t := 24, k := 1, enc := fun s => [.slice s.A s.n s.c], ok := fun _ => True, len := fun _ => rfl, one := fun s v h => by simp only [List.mem_cons, List.not_mem_nil, or_false] at h; subst h; rfl }
theorem Sl_at {w : World} {B n c j : Nat} {A : Option Addr} {ss : List SlR} (h : RdF sliF w B A n c ss) (hj : j < n) : ∃ b off s, A = some ⟨b, off, none⟩ ∧ b < B ∧ Hid (ss[j]? = some s) ∧ w.cell? ⟨b, off + j, none⟩ = some (.slice s.A s.n s.c) := by
  obtain ⟨b, off, s, e, hb, _, hx, hc⟩ := h.at hj
  have hc' := hc
  unfold Hid at hc'
  refine ⟨b, off, s, e, hb, hx, ?_⟩
  have := hc' 0 _ rfl
  simpa [sliF] using this
/-- The headers ss are those of slices that read as the lists yss, none empty. -/
def SeenS (w : World) (B : Nat) (ss : List SlR) (yss : List (List Int)) : Prop := ss.length = yss.length ∧ ∀ (j : Nat) (s : SlR) (ys : List Int), ss[j]? = some s → yss[j]? = some ys → s.n = ys.length ∧ 1 ≤ ys.length ∧ Rd w B s.A s.n s.c ys
def lenTo (yss : List (List Int)) (i : Nat) : Nat := ((yss.take i).map List.length).sum
theorem lenTo_succ {yss : List (List Int)} {i : Nat} {ys : List Int} (h : yss[i]? = some ys) : lenTo yss (i + 1) = lenTo yss i + ys.length := by
  obtain ⟨hi, rfl⟩ := List.getElem?_eq_some_iff.1 h
  unfold lenTo
  rw [List.take_succ_eq_append_getElem hi, List.map_append, List.sum_append_nat]
  simp
theorem catTo_succ {yss : List (List Int)} {i : Nat} {ys : List Int} (h : yss[i]? = some ys) : (yss.take (i + 1)).flatten = (yss.take i).flatten ++ ys := by
  obtain ⟨hi, rfl⟩ := List.getElem?_eq_some_iff.1 h
  rw [List.take_succ_eq_append_getElem hi, List.flatten_append]
  simp
theorem catTo_len (yss : List (List Int)) : ∀ i, ((yss.take i).flatten).length = lenTo yss i := by
  intro i
  unfold lenTo
  rw [List.length_flatten]
end Go.Proofs.Ytpmhnklmhfadlaa
