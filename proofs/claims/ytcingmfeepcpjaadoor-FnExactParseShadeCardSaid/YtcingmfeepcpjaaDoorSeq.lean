/- Words for slices whose elements lie in some cells each (structs of numbers and strings): a slice that reads as a list, one that the call itself made; what keeps them. No condition. -/
import Derived.Test.YtcingmfeepcpjaaDoorMem
namespace Go.Proofs.YtcingmfeepcpjaaDoor
open Go.RowKit

/-- How an element lies in memory. -/
structure Flat (α : Type) where
  t : TypeId
  k : Nat
  enc : α → List Value
  ok : α → Prop
  len : ∀ a, (enc a).length = k
  one : ∀ a, ∀ v ∈ enc a, v.oneCell' = true

section
variable {α : Type} {enc : α → List Value} {k : Nat}
theorem flat_len (h : ∀ a, (enc a).length = k) (xs : List α) : (xs.flatMap enc).length = xs.length * k := by
  induction xs with
  | nil => simp
  | cons x xs ih => simp [List.flatMap_cons, ih, h, Nat.succ_mul, Nat.add_comm]
theorem flat_drop (h : ∀ a, (enc a).length = k) (xs : List α) (j : Nat) : (xs.flatMap enc).drop (j * k) = (xs.drop j).flatMap enc := by
  induction xs generalizing j with
  | nil => simp
  | cons x xs ih =>
    cases j with
    | zero => simp
    | succ j =>
      rw [List.flatMap_cons, Nat.succ_mul, List.drop_append, List.drop_of_length_le (by rw [h]; omega), h, Nat.add_sub_cancel, ih]
      simp
theorem flat_take (h : ∀ a, (enc a).length = k) (xs : List α) (j : Nat) : (xs.flatMap enc).take (j * k) = (xs.take j).flatMap enc := by
  induction xs generalizing j with
  | nil => simp
  | cons x xs ih =>
    cases j with
    | zero => simp
    | succ j =>
      rw [List.flatMap_cons, Nat.succ_mul, List.take_append, List.take_of_length_le (by rw [h]; omega), h, Nat.add_sub_cancel, ih]
      simp
theorem flat_get (h : ∀ a, (enc a).length = k) {xs : List α} {j i : Nat} {a : α} (hj : xs[j]? = some a) (hi : i < k) : (xs.flatMap enc)[j * k + i]? = (enc a)[i]? := by
  rw [← List.getElem?_drop, flat_drop h]
  obtain ⟨hlt, rfl⟩ := List.getElem?_eq_some_iff.1 hj
  rw [List.drop_eq_getElem_cons hlt, List.flatMap_cons, List.getElem?_append_left (by rw [h]; exact hi)]
/-- Cells put into a row, one after the other. -/
def setMany : List Value → Nat → List Value → List Value
  | l, _, [] => l
  | l, o, v :: vs => setMany (l.set o v) (o + 1) vs
theorem setMany_eq (vs : List Value) : ∀ (l : List Value) (o : Nat), o + vs.length ≤ l.length → setMany l o vs = l.take o ++ vs ++ l.drop (o + vs.length) := by
  induction vs with
  | nil => intro l o _; simp [setMany]
  | cons v vs ih =>
    intro l o h
    simp only [List.length_cons] at h
    rw [setMany, ih _ _ (by rw [List.length_set]; omega)]
    have e1 : (l.set o v).take (o + 1) = l.take o ++ [v] := by
      rw [List.take_set, List.take_succ_eq_append_getElem (by omega), List.set_append, if_neg (by rw [List.length_take]; omega)]
      rw [show o - (List.take o l).length = 0 by rw [List.length_take]; omega]
      rfl
    have e2 : (l.set o v).drop (o + 1 + vs.length) = l.drop (o + (v :: vs).length) := by
      rw [List.drop_set, if_pos (by omega), List.length_cons, Nat.add_right_comm, Nat.add_assoc]
    rw [e1, e2, List.append_assoc, List.append_assoc, List.append_assoc]
    rfl
theorem flat_put (h : ∀ a, (enc a).length = k) {xs : List α} {j : Nat} (a : α) (hj : j < xs.length) : setMany (xs.flatMap enc) (j * k) (enc a) = (xs.set j a).flatMap enc := by
  have hle : (j + 1) * k ≤ xs.length * k := Nat.mul_le_mul_right _ hj
  rw [Nat.succ_mul] at hle
  rw [setMany_eq _ _ _ (by rw [flat_len h, h]; exact hle), h, ← Nat.succ_mul, flat_take h, flat_drop h, List.set_eq_take_append_cons_drop, if_pos hj]
  simp
theorem setMany_set (vs : List Value) : ∀ (l : List Value) (o q : Nat) (v : Value), q < o → setMany (l.set q v) o vs = (setMany l o vs).set q v := by
  induction vs with
  | nil => intros; rfl
  | cons u vs ih =>
    intro l o q v h
    rw [setMany, setMany, List.set_comm _ _ (by omega), ih _ _ _ _ (by omega)]
end

/-- The slice (A, n, c) reads as the elements xs and lies below block B. -/
structure RdF {α : Type} (F : Flat α) (w : World) (B : Nat) (A : Option Addr) (n c : Nat) (xs : List α) : Prop where
  len : xs.length = n
  cap : n ≤ c
  max : c ≤ maxLen
  cells : 0 < n → ∃ b off, A = some ⟨b, off, none⟩ ∧ b < B ∧ ∀ j i a v, xs[j]? = some a → (F.enc a)[i]? = some v → w.cell? ⟨b, off + (j * F.k + i), none⟩ = some v
  fits : ∀ x ∈ xs, F.ok x
  nil : A = none → n = 0 ∧ c = 0

section
variable {α : Type} {F : Flat α} {w w' : World} {B B' n c : Nat} {A : Option Addr} {xs : List α}
theorem RdF.keep (h : RdF F w B A n c xs) (hk : ∀ b o, b < B → w'.cell? ⟨b, o, none⟩ = w.cell? ⟨b, o, none⟩) : RdF F w' B A n c xs :=
  ⟨h.len, h.cap, h.max, fun hn => by
    obtain ⟨b, off, e, hb, hc⟩ := h.cells hn
    exact ⟨b, off, e, hb, fun j i a v hj hi => (hk _ _ hb).trans (hc j i a v hj hi)⟩, h.fits, h.nil⟩
theorem RdF.more (h : RdF F w B A n c xs) (hB : B ≤ B') : RdF F w B' A n c xs :=
  ⟨h.len, h.cap, h.max, fun hn => by
    obtain ⟨b, off, e, hb, hc⟩ := h.cells hn
    exact ⟨b, off, e, by omega, hc⟩, h.fits, h.nil⟩
theorem RdF.below (h : RdF F w B A n c xs) (hb : Below B' w w') (hB : B ≤ B') : RdF F w' B A n c xs := h.keep fun b o hp => hb.cell (p := ⟨b, o, none⟩) (by show b < B'; omega)
theorem RdF.all (h : RdF F w B A n c xs) (hb : Below w.heap.size w w') (hB : B ≤ w.heap.size) : RdF F w' B A n c xs := h.below hb hB
theorem RdF.drew (h : RdF F w B A n c xs) : RdF F w.drew B A n c xs := ⟨h.len, h.cap, h.max, h.cells, h.fits, h.nil⟩
theorem RdF.drewN (h : RdF F w B A n c xs) (k : Nat) : RdF F (w.drewN k) B A n c xs := ⟨h.len, h.cap, h.max, h.cells, h.fits, h.nil⟩
theorem RdF.alloc (h : RdF F w B A n c xs) (hB : B ≤ w.heap.size) (o : Obj) : RdF F (w.alloc o) B A n c xs := h.keep fun b _ hp => World.cell?_alloc_lt w o ⟨b, _, none⟩ (by show b < _; omega)
theorem RdF.len_lt (h : RdF F w B A n c xs) : n ≤ 9223372036854775807 := by have := h.cap; have := h.max; unfold maxLen at this; omega
theorem RdF.mark {row : Option Nat} (h : RdF F w B A n c xs) (hg : w.grownBy w' row) (hr : ∀ k, row = some k → B ≤ k) (hB : B ≤ w.heap.size) : RdF F w' B A n c xs :=
  h.keep fun b o hb => World.cell?_of_block (hg.block b (by omega) (fun e => by have := hr b e.symm; omega))
/-- One element: where it lies, its cells. -/
theorem RdF.at (h : RdF F w B A n c xs) {j : Nat} (hj : j < n) : ∃ b off a, A = some ⟨b, off, none⟩ ∧ b < B ∧ F.ok a ∧ Hid (xs[j]? = some a) ∧ Hid (∀ i v, (F.enc a)[i]? = some v → w.cell? ⟨b, off + (j * F.k + i), none⟩ = some v) := by
  obtain ⟨b, off, e, hb, hc⟩ := h.cells (by omega)
  have hl := h.len
  have hx : xs[j]? = some (xs[j]'(by omega)) := List.getElem?_eq_getElem (by omega)
  exact ⟨b, off, _, e, hb, h.fits _ (List.getElem_mem (by omega)), hx, fun i v hi => hc j i _ v hx hi⟩
/-- A slice from q on, as Go cuts it. -/
theorem RdF.cut {b off q : Nat} (h : RdF F w B (some ⟨b, off, none⟩) n c xs) (hq : q ≤ n) : RdF F w B (some ⟨b, if c = q then off else off + q * F.k, none⟩) (n - q) (c - q) (xs.drop q) := by
  refine ⟨by rw [List.length_drop, h.len], by have := h.cap; omega, by have := h.max; omega, fun hn => ?_, fun x hx => h.fits x (List.mem_of_mem_drop hx), fun e => by cases e⟩
  obtain ⟨_, _, e, hb, hc⟩ := h.cells (by omega)
  cases e
  have := h.cap
  rw [if_neg (by omega)]
  refine ⟨b, _, rfl, hb, fun j i a v hj hi => ?_⟩
  rw [List.getElem?_drop] at hj
  have := hc _ i a v hj hi
  rwa [show off + q * F.k + (j * F.k + i) = off + ((q + j) * F.k + i) by rw [Nat.add_mul]; omega]
/-- The head of a slice. -/
theorem RdF.head {q : Nat} (h : RdF F w B A n c xs) (hq : q ≤ n) : RdF F w B A q c (xs.take q) := by
  refine ⟨by rw [List.length_take, h.len]; omega, by have := h.cap; omega, h.max, fun hn => ?_, fun x hx => h.fits x (List.mem_of_mem_take hx), fun e => ⟨by have := (h.nil e).1; omega, (h.nil e).2⟩⟩
  obtain ⟨b, off, e, hb, hc⟩ := h.cells (by omega)
  refine ⟨b, off, e, hb, fun j i a v hj hi => hc j i a v ?_ hi⟩
  have hl := (List.getElem?_eq_some_iff.1 hj).1
  rw [List.length_take] at hl
  rw [List.getElem?_take, if_pos (by omega)] at hj
  exact hj
end

/-- The slice v holds the elements xs in a block of its own, from block lo on. -/
def OwnF {α : Type} (F : Flat α) (w : World) (lo : Nat) (v : Value) (xs : List α) : Prop := w.ownsRow lo F.t F.k v xs.length (xs.flatMap F.enc) ∧ ∀ x ∈ xs, F.ok x

section
variable {α : Type} {F : Flat α} {w w' : World} {lo : Nat} {v : Value} {xs : List α}
theorem OwnF.nil (F : Flat α) (w : World) (lo : Nat) : OwnF F w lo (.slice none 0 0) [] := ⟨World.ownsRow_nil w lo _ _, fun _ h => by simp at h⟩
theorem OwnF.form (h : OwnF F w lo v xs) : ∃ A c, v = .slice A xs.length c ∧ RdF F w w.heap.size A xs.length c xs ∧ (∀ k, v.ownBlock = some k → lo ≤ k ∧ k < w.heap.size) := by
  have hlt := h.1.lt
  obtain ⟨h1, hf⟩ := h
  rcases h1.2 with ⟨rfl, h0⟩ | ⟨g, cap, cur, rfl, hb, hg, hle, hm, hs, ht⟩
  · exact ⟨none, 0, by rw [h0], ⟨rfl, by omega, by unfold maxLen; omega, fun h => by omega, hf, fun _ => ⟨h0, rfl⟩⟩, hlt⟩
  · refine ⟨_, cap, rfl, ⟨rfl, hle, hm, fun hn => ⟨g, 0, rfl, (hlt g rfl).2, fun j i a v hj hi => ?_⟩, hf, fun h => by cases h⟩, hlt⟩
    have hik : i < F.k := by have := (List.getElem?_eq_some_iff.1 hi).1; rwa [F.len] at this
    have hjl := (List.getElem?_eq_some_iff.1 hj).1
    have hle2 : (j + 1) * F.k ≤ xs.length * F.k := Nat.mul_le_mul_right _ hjl
    rw [Nat.succ_mul] at hle2
    rw [Nat.zero_add, h1.cellAt _ (by omega), flat_get F.len hj hik, hi]
theorem OwnF.rd {n c : Nat} {A : Option Addr} (h : OwnF F w lo (.slice A n c) xs) : RdF F w w.heap.size A n c xs := by
  obtain ⟨A', c', hv, hr, _⟩ := h.form
  cases hv
  exact hr
theorem OwnF.bd (h : OwnF F w lo v xs) : ∀ k, v.ownBlock = some k → lo ≤ k ∧ k < w.heap.size := h.1.lt
theorem OwnF.kept (h : OwnF F w lo v xs) {row : Option Nat} (hg : w.grownBy w' row) (hne : v.ownBlock = none ∨ v.ownBlock ≠ row) : OwnF F w' lo v xs := ⟨h.1.kept hg hne, h.2⟩
theorem OwnF.below {B : Nat} (h : OwnF F w lo v xs) (hb : Below B w w') (hB : ∀ k, v.ownBlock = some k → k < B) : OwnF F w' lo v xs := by
  refine ⟨⟨h.1.1, ?_⟩, h.2⟩
  rcases h.1.2 with h0 | ⟨g, cap, cur, rfl, hbb, hg, r⟩
  · exact .inl h0
  · exact .inr ⟨g, cap, cur, rfl, hbb, (hb.block g (hB g rfl)).trans hg, r⟩
theorem OwnF.all (h : OwnF F w lo v xs) (hb : Below w.heap.size w w') : OwnF F w' lo v xs := h.below hb fun k hk => (h.1.lt k hk).2
theorem OwnF.mono {lo' : Nat} (h : OwnF F w lo v xs) (hl : lo' ≤ lo) : OwnF F w lo' v xs := by
  refine ⟨⟨h.1.1, ?_⟩, h.2⟩
  rcases h.1.2 with h0 | ⟨g, cap, cur, rfl, hbb, r⟩
  · exact .inl h0
  · exact .inr ⟨g, cap, cur, rfl, Nat.le_trans hl hbb, r⟩
theorem OwnF.alloc (h : OwnF F w lo v xs) (o : Obj) : OwnF F (w.alloc o) lo v xs := h.all ((Below.refl _ _).alloc (Nat.le_refl _) o)
theorem OwnF.drewN (h : OwnF F w lo v xs) (k : Nat) : OwnF F (w.drewN k) lo v xs := ⟨h.1, h.2⟩
theorem OwnF.drew (h : OwnF F w lo v xs) : OwnF F w.drew lo v xs := ⟨h.1, h.2⟩
theorem OwnF.setLow (h : OwnF F w lo v xs) {p : Addr} (hp : p.block < lo) (u : Value) : OwnF F (w.setCell p u) lo v xs := ⟨ownsRow_setCell_below h.1 hp u, h.2⟩
theorem OwnF.far (h : OwnF F w lo v xs) {a : Addr} (ha : v.ownBlock ≠ some a.block) (u : Value) : OwnF F (w.setCell a u) lo v xs := h.kept (grown_setCell w a u) (.inr ha)
theorem OwnF.mark {row : Option Nat} (h : OwnF F w lo v xs) (hg : w.grownBy w' row) (hd : ∀ k k', row = some k → v.ownBlock = some k' → k ≠ k') : OwnF F w' lo v xs :=
  h.kept hg (by
    cases hv : v.ownBlock with
    | none => exact .inl rfl
    | some k' => exact .inr fun e => hd k' k' e.symm hv rfl)
theorem OwnF.some_ {n c : Nat} {A : Option Addr} (h : OwnF F w lo (.slice A n c) xs) (hn : 0 < xs.length) : ∃ g, A = some ⟨g, 0, none⟩ ∧ lo ≤ g ∧ g < w.heap.size := by
  rcases h.1.2 with ⟨e, h0⟩ | ⟨g, cap, cur, e, hb, hg, _⟩
  · omega
  · cases e
    exact ⟨g, rfl, hb, (Array.getElem?_eq_some_iff.1 hg).1⟩
theorem OwnF.made (F : Flat α) {w : World} {lo : Nat} (cs : Array Value) (xs : List α) (h : lo ≤ w.heap.size) (hm : xs.length ≤ maxLen) (e : cs.toList = xs.flatMap F.enc) (hf : ∀ x ∈ xs, F.ok x) :
    OwnF F (w.alloc (.cells cs F.t)) lo (.slice (some ⟨w.heap.size, 0, none⟩) xs.length xs.length) xs :=
  ⟨e ▸ World.ownsRow_lit w cs xs.length h hm (by rw [← Array.length_toList, e, flat_len F.len]), hf⟩
theorem OwnF.empty (F : Flat α) {w : World} {lo : Nat} (h : lo ≤ w.heap.size) : OwnF F (w.alloc (.cells #[] F.t)) lo (.slice (some ⟨w.heap.size, 0, none⟩) 0 0) [] :=
  OwnF.made F #[] [] h (Nat.zero_le _) rfl (fun _ h => by simp at h)
theorem flat_made (F : Flat α) {cs : Array Value} {z : α} (hk : 0 < F.k) (hl : cs.toList = F.enc z) (n : Nat) : (madeCells cs (n * F.k)).toList = (List.replicate n z).flatMap F.enc := by
  have hs : cs.size = F.k := by rw [← Array.length_toList, hl, F.len]
  apply List.ext_getElem?
  intro m
  by_cases hm : m < n * F.k
  · have hd := Nat.div_add_mod m F.k
    have hmod := Nat.mod_lt m hk
    have hq : m / F.k < n := Nat.div_lt_of_lt_mul (by rw [Nat.mul_comm]; exact hm)
    have e : m = m / F.k * F.k + m % F.k := by rw [Nat.mul_comm]; exact hd.symm
    have e1 : ((List.replicate n z).flatMap F.enc)[m]? = (F.enc z)[m % F.k]? := by
      conv => lhs; rw [e]
      exact flat_get F.len (by rw [List.getElem?_replicate, if_pos hq]) hmod
    rw [e1, ← hl]
    simp [madeCells, hs, hm, hmod]
  · rw [List.getElem?_eq_none (by simp [madeCells]; omega), List.getElem?_eq_none (by rw [flat_len F.len, List.length_replicate]; omega)]
/-- Cells stored one after the other. -/
def putCells (w : World) (g : Nat) : Nat → List Value → World
  | _, [] => w
  | o, v :: vs => putCells (w.setCell ⟨g, o, none⟩ v) g (o + 1) vs
theorem putCells_own {base g n cap : Nat} {e : TypeId} {size : Nat} (vs : List Value) : ∀ (w : World) (o : Nat) (l : List Value), w.ownsRow base e size (.slice (some ⟨g, 0, none⟩) n cap) n l →
    (putCells w g o vs).ownsRow base e size (.slice (some ⟨g, 0, none⟩) n cap) n (setMany l o vs) ∧ w.grownBy (putCells w g o vs) (some g) := by
  induction vs with
  | nil => intro w o l h; exact ⟨h, World.grownBy.refl _ _⟩
  | cons v vs ih =>
    intro w o l h
    have H := h.stored o v
    have H2 := ih _ (o + 1) _ H.1
    exact ⟨H2.1, H.2.trans H2.2⟩
theorem OwnF.put {g n c j : Nat} (h : OwnF F w lo (.slice (some ⟨g, 0, none⟩) n c) xs) (hj : j < xs.length) (a : α) (ha : F.ok a) :
    OwnF F (putCells w g (j * F.k) (F.enc a)) lo (.slice (some ⟨g, 0, none⟩) n c) (xs.set j a) ∧ w.grownBy (putCells w g (j * F.k) (F.enc a)) (some g) := by
  obtain ⟨A', c', hv, hr, _⟩ := h.form
  cases hv
  have H := putCells_own (F.enc a) w (j * F.k) _ h.1
  rw [flat_put F.len a hj] at H
  refine ⟨⟨by rw [List.length_set]; exact H.1, fun x hx => ?_⟩, H.2⟩
  rcases List.mem_or_eq_of_mem_set hx with hx | rfl
  · exact h.2 x hx
  · exact ha
theorem OwnF.cell {g n c j i : Nat} {a : α} {v : Value} (h : OwnF F w lo (.slice (some ⟨g, 0, none⟩) n c) xs) (hj : xs[j]? = some a) (hi : (F.enc a)[i]? = some v) : w.cell? ⟨g, j * F.k + i, none⟩ = some v := by
  obtain ⟨A', c', hv, hr, _⟩ := h.form
  cases hv
  obtain ⟨_, _, e, _, hc⟩ := hr.cells (by have := (List.getElem?_eq_some_iff.1 hj).1; omega)
  cases e
  have := hc j i a v hj hi
  rwa [Nat.zero_add] at this
theorem OwnF.there {g n c j i : Nat} (h : OwnF F w lo (.slice (some ⟨g, 0, none⟩) n c) xs) (hj : j < xs.length) (hi : i < F.k) : ∃ v, w.cell? ⟨g, j * F.k + i, none⟩ = some v :=
  ⟨_, h.cell (List.getElem?_eq_getElem hj) (List.getElem?_eq_getElem (by rw [F.len]; exact hi))⟩
theorem OwnF.frozen {g n c : Nat} (h : OwnF F w lo (.slice (some ⟨g, 0, none⟩) n c) xs) (j : Nat) : w.frozen? ⟨g, j, none⟩ = false := by
  obtain ⟨A', c', hv, _, _⟩ := h.form
  cases hv
  exact h.1.frozenAt j
theorem take_step {ys xs : List α} {k : Nat} {a : α} (hx : xs[k]? = some a) (hl : ys.length = xs.length) (h : ys.take k = xs.take k) : (ys.set k a).take (k + 1) = xs.take (k + 1) := by
  obtain ⟨hk, rfl⟩ := List.getElem?_eq_some_iff.1 hx
  rw [List.take_set, List.take_succ_eq_append_getElem (by omega), List.take_succ_eq_append_getElem hk, h, List.set_append, if_neg (by simp; omega), List.length_take]
  simp [Nat.min_eq_left (Nat.le_of_lt hk)]
theorem row_all {w w' : World} {base n size : Nat} {e : TypeId} {v : Value} {xs : List Value} (h : w.ownsRow base e size v n xs) (hb : Below w.heap.size w w') : w'.ownsRow base e size v n xs := by
  refine ⟨h.1, ?_⟩
  rcases h.2 with h0 | ⟨g, cap, cur, rfl, hbb, hg, r⟩
  · exact .inl h0
  · exact .inr ⟨g, cap, cur, rfl, hbb, (hb.block g (Array.getElem?_eq_some_iff.1 hg).1).trans hg, r⟩
theorem row_there {w : World} {base g cap n size j : Nat} {e : TypeId} {xs : List Value} (h : w.ownsRow base e size (.slice (some ⟨g, 0, none⟩) n cap) n xs) (hj : j < n * size) : ∃ y, w.cell? ⟨g, j, none⟩ = some y :=
  ⟨_, (h.cellAt j hj).trans (List.getElem?_eq_getElem (by rw [h.1]; exact hj))⟩
theorem grown_then {a b c : World} {row : Option Nat} (h : a.grownBy b row) (k : Below b.heap.size b c) : a.grownBy c row :=
  ⟨k.os.trans h.os, k.tape.trans h.tape, k.output.trans h.output, Nat.le_trans h.size k.size, fun i hi hne => (k.block i (Nat.lt_of_lt_of_le hi h.size)).trans (h.block i hi hne)⟩
/-- A list as a copy of the slice's own. -/
def CopiedF (F : Flat α) (w : World) (xs : List α) (e : Ending) (w' : World) : Prop :=
  ∃ g, e = .returned (.slice (some ⟨g, 0, none⟩) xs.length xs.length) ∧ OwnF F w' w.heap.size (.slice (some ⟨g, 0, none⟩) xs.length xs.length) xs ∧ Below w.heap.size w w'
/-- What a call leaves that answers a slice of its own and a yes or no. -/
def OutF (F : Flat α) (w : World) (ys : List α) (b : Bool) (e : Ending) (w' : World) : Prop :=
  ∃ A c, e = .returned (.tuple #[.slice A ys.length c, .bool b]) ∧ OwnF F w' w.heap.size (.slice A ys.length c) ys ∧ Below w.heap.size w w'
/-- .. and a number between. -/
def OutFib (F : Flat α) (w : World) (ys : List α) (m : Int) (b : Bool) (e : Ending) (w' : World) : Prop :=
  ∃ A c, e = .returned (.tuple #[.slice A ys.length c, .int .i64 m, .bool b]) ∧ OwnF F w' w.heap.size (.slice A ys.length c) ys ∧ Below w.heap.size w w'
end
end Go.Proofs.YtcingmfeepcpjaaDoor
