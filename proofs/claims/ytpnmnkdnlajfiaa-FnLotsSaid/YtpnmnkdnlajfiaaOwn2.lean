/- Slices of slices of numbers, each in a block of its own: what keeps them, a row more, the laws' own helpers over them. Condition: few numbers. -/
import Derived.Test.YtpnmnkdnlajfiaaHelp
namespace Go.Proofs.Ytpnmnkdnlajfiaa
open Go.RowKit

/-- v holds the rows yss, each in a block of its own, all from block lo on. -/
def Own2 (w : World) (lo : Nat) (v : Value) (yss : List (List Int)) : Prop :=
  ∃ hs : List Value, hs.length = yss.length ∧ w.ownsRow lo 24 1 v yss.length hs ∧ (∀ (i : Nat) (h : Value) (ys : List Int), hs[i]? = some h → yss[i]? = some ys → Own w lo h ys) ∧
    (∀ (i j : Nat) (h h' : Value), i < j → hs[i]? = some h → hs[j]? = some h' → ∀ k, h.ownBlock = some k → h'.ownBlock ≠ some k)
theorem info_ints : (Try.prog.info? 24).map (fun i => (i.zero, i.size, i.bytes)) = some (some (.slice none 0 0), 1, 24) := by kernel_rfl
theorem row_all' {w w' : World} {base n size : Nat} {e : TypeId} {v : Value} {xs : List Value} (h : w.ownsRow base e size v n xs) (hb : Below w.heap.size w w') : w'.ownsRow base e size v n xs := by
  refine ⟨h.1, ?_⟩
  rcases h.2 with h0 | ⟨g, cap, cur, rfl, hbb, hg, r⟩
  · exact .inl h0
  · exact .inr ⟨g, cap, cur, rfl, hbb, (hb.block g (Array.getElem?_eq_some_iff.1 hg).1).trans hg, r⟩
theorem row_mono' {w : World} {base lo n size : Nat} {e : TypeId} {v : Value} {xs : List Value} (h : w.ownsRow base e size v n xs) (hl : lo ≤ base) : w.ownsRow lo e size v n xs := by
  refine ⟨h.1, ?_⟩
  rcases h.2 with h0 | ⟨g, cap, cur, hv, hb, r⟩
  · exact .inl h0
  · exact .inr ⟨g, cap, cur, hv, Nat.le_trans hl hb, r⟩
/-- A row of slices and a row of numbers lie apart. -/
theorem rows_apart {w : World} {b b' n n' size size' : Nat} {e e' : TypeId} {v v' : Value} {xs xs' : List Value} (h : w.ownsRow b e size v n xs) (h' : w.ownsRow b' e' size' v' n' xs') (hne : e ≠ e') : v.ownBlock = none ∨ v.ownBlock ≠ v'.ownBlock := by
  rcases h.2 with ⟨rfl, _⟩ | ⟨g, cap, cur, rfl, _, hg, _⟩
  · exact .inl rfl
  · refine .inr fun eq => ?_
    rcases h'.2 with ⟨rfl, _⟩ | ⟨g', cap', cur', rfl, _, hg', _⟩
    · cases eq
    · obtain rfl : g = g' := by simpa [Value.ownBlock] using eq
      rw [hg] at hg'
      simp only [Option.some.injEq, Obj.cells.injEq] at hg'
      exact hne hg'.2.1
section
variable {w w' : World} {lo : Nat} {v : Value} {yss : List (List Int)}
theorem Own2.nil (w : World) (lo : Nat) : Own2 w lo (.slice none 0 0) [] := ⟨[], rfl, World.ownsRow_nil w lo _ _, fun i h ys hi => by simp at hi, fun i j h h' _ hi => by simp at hi⟩
theorem Own2.all (h : Own2 w lo v yss) (hb : Below w.heap.size w w') : Own2 w' lo v yss := by
  obtain ⟨hs, h1, h2, h3, h4⟩ := h
  exact ⟨hs, h1, row_all' h2 hb, fun i h ys hi hy => (h3 i h ys hi hy).all hb, h4⟩
theorem Own2.mono {lo' : Nat} (h : Own2 w lo v yss) (hl : lo' ≤ lo) : Own2 w lo' v yss := by
  obtain ⟨hs, h1, h2, h3, h4⟩ := h
  exact ⟨hs, h1, row_mono' h2 hl, fun i h ys hi hy => (h3 i h ys hi hy).mono hl, h4⟩
theorem Own2.form (h : Own2 w lo v yss) : ∃ A c, v = .slice A yss.length c ∧ (∀ k, v.ownBlock = some k → lo ≤ k ∧ k < w.heap.size) := by
  obtain ⟨hs, h1, h2, _⟩ := h
  have hlt := h2.lt
  rcases h2.2 with ⟨rfl, h0⟩ | ⟨g, cap, cur, rfl, _⟩
  · exact ⟨none, 0, by rw [h0], hlt⟩
  · exact ⟨_, cap, rfl, hlt⟩
theorem Own2.empty {w : World} {lo : Nat} (h : lo ≤ w.heap.size) : Own2 (w.alloc (.cells #[] 24)) lo (.slice (some ⟨w.heap.size, 0, none⟩) 0 0) [] :=
  ⟨[], rfl, World.ownsRow_lit w #[] 0 h (Nat.zero_le _) rfl, fun i h ys hi => by simp at hi, fun i j h h' _ hi => by simp at hi⟩
/-- One row: where its header lies, what it holds. -/
theorem Own2.at {n c i : Nat} {A : Option Addr} (h : Own2 w lo (.slice A n c) yss) (hi : i < yss.length) : ∃ g hd ys, A = some ⟨g, 0, none⟩ ∧ lo ≤ g ∧ g < w.heap.size ∧ n = yss.length ∧ w.cell? ⟨g, i, none⟩ = some hd ∧ Own w lo hd ys ∧ Hid (yss[i]? = some ys) := by
  obtain ⟨hs, h1, h2, h3, _⟩ := h
  have hlt := h2.lt
  rcases h2.2 with ⟨e, h0⟩ | ⟨g, cap, cur, e, hb, hg, hle, hm, hsz, ht⟩
  · omega
  · cases e
    have hx : hs[i]? = some (hs[i]'(by omega)) := List.getElem?_eq_getElem (by omega)
    have hy : yss[i]? = some (yss[i]'hi) := List.getElem?_eq_getElem hi
    exact ⟨g, _, _, rfl, hb, (hlt g rfl).2, rfl, (h2.cellAt i (by omega)).trans hx, h3 i _ _ hx hy, hy⟩
/-- A row turned in its own block. -/
theorem Own2.turn {n c i g : Nat} {hd : Value} {zs : List Int} (h : Own2 w lo (.slice (some ⟨g, 0, none⟩) n c) yss) (hi : i < yss.length) (hc : w.cell? ⟨g, i, none⟩ = some hd) (hg : w.grownBy w' hd.ownBlock) (ho : Own w' lo hd zs) :
    Own2 w' lo (.slice (some ⟨g, 0, none⟩) n c) (yss.set i zs) := by
  obtain ⟨hs, h1, h2, h3, h4⟩ := h
  obtain rfl : n = yss.length := by
    rcases h2.2 with ⟨e, _⟩ | ⟨g, cap, cur, e, _⟩ <;> cases e
    rfl
  have hx : hs[i]? = some hd := by
    have h5 := h2.cellAt i (show i < yss.length * 1 by omega)
    rw [hc] at h5
    exact h5.symm
  have hy : yss[i]? = some (yss[i]'hi) := List.getElem?_eq_getElem hi
  have hrow := h3 i hd _ hx hy
  refine ⟨hs, by rw [List.length_set]; exact h1, by rw [List.length_set]; exact h2.kept hg (rows_apart h2 hrow.1 (by decide)), ?_, h4⟩
  intro j h' ys hj hyj
  rw [List.getElem?_set] at hyj
  by_cases e : i = j
  · subst e
    rw [if_pos rfl, if_pos hi] at hyj
    cases hyj
    rw [hx] at hj
    cases hj
    exact ho
  · rw [if_neg e] at hyj
    refine (h3 j h' ys hj hyj).kept hg ?_
    cases hb : h'.ownBlock with
    | none => exact .inl rfl
    | some k =>
      refine .inr fun e' => ?_
      rcases Nat.lt_or_gt_of_ne e with hij | hij
      · exact h4 i j hd h' hij hx hj k e'.symm hb
      · exact h4 j i h' hd hij hj hx k hb e'.symm
/-- A row more. -/
theorem Own2.push {v' : Value} {hd : Value} {ys : List Int} {hs : List Value} (h1 : hs.length = yss.length) (h2 : w.ownsRow lo 24 1 v yss.length hs) (h3 : ∀ (i : Nat) (h : Value) (ys : List Int), hs[i]? = some h → yss[i]? = some ys → Own w lo h ys)
    (h4 : ∀ (i j : Nat) (h h' : Value), i < j → hs[i]? = some h → hs[j]? = some h' → ∀ k, h.ownBlock = some k → h'.ownBlock ≠ some k) (ho : Own w lo hd ys) (hnew : ∀ (i : Nat) (h : Value), hs[i]? = some h → ∀ k, h.ownBlock = some k → hd.ownBlock ≠ some k)
    (hg : w.grownBy w' v.ownBlock) (hown : w'.ownsRow lo 24 1 v' (yss.length + 1) (hs ++ [hd])) : Own2 w' lo v' (yss ++ [ys]) := by
  have keep : ∀ h zs, Own w lo h zs → Own w' lo h zs := fun h zs hz => hz.kept hg (rows_apart hz.1 h2 (by decide))
  refine ⟨hs ++ [hd], by simp [h1], by simpa using hown, ?_, ?_⟩
  · intro i h zs hi hz
    by_cases hlt : i < hs.length
    · rw [List.getElem?_append_left hlt] at hi
      rw [List.getElem?_append_left (by omega)] at hz
      exact keep _ _ (h3 i h zs hi hz)
    · rw [List.getElem?_append_right (by omega)] at hi
      rw [List.getElem?_append_right (by omega)] at hz
      have hi0 : i - hs.length = 0 := by
        have := (List.getElem?_eq_some_iff.1 hi).1
        simp at this; omega
      rw [hi0] at hi
      rw [show i - yss.length = 0 by omega] at hz
      simp at hi hz
      subst hi; subst hz
      exact keep _ _ ho
  · intro i j h h' hij hi hj k hk
    have hjl := (List.getElem?_eq_some_iff.1 hj).1
    rw [List.length_append, List.length_singleton] at hjl
    rw [List.getElem?_append_left (by omega)] at hi
    by_cases hlt : j < hs.length
    · rw [List.getElem?_append_left hlt] at hj
      exact h4 i j h h' hij hi hj k hk
    · rw [List.getElem?_append_right (by omega), show j - hs.length = 0 by omega] at hj
      simp at hj
      subst hj
      exact hnew i h hi k hk
end

/-- The marks from k on, row for row. -/
def marksR (k : Int) : List Nat → List (List Int)
  | [] => []
  | n :: r => iota k n :: marksR (k + n) r
theorem marksR_len (l : List Nat) : ∀ k, (marksR k l).length = l.length := by
  induction l with
  | nil => intro k; rfl
  | cons n r ih => intro k; simp [marksR, ih]
theorem marksR_snoc (n : Nat) (l : List Nat) : ∀ k, marksR k (l ++ [n]) = marksR k l ++ [iota (k + (l.sum : Nat)) n] := by
  induction l with
  | nil => intro k; simp [marksR]
  | cons m r ih =>
    intro k
    rw [List.cons_append, marksR, ih, marksR, List.cons_append, List.sum_cons]
    rw [show k + (m : Int) + ((r.sum : Nat) : Int) = k + ((m + r.sum : Nat) : Int) by omega]
theorem marksR_app (l l' : List Nat) : ∀ k, marksR k (l ++ l') = marksR k l ++ marksR (k + (l.sum : Nat)) l' := by
  induction l with
  | nil => intro k; simp [marksR]
  | cons m r ih =>
    intro k
    rw [List.cons_append, marksR, ih, marksR, List.cons_append, List.sum_cons]
    rw [show k + (m : Int) + ((r.sum : Nat) : Int) = k + ((m + r.sum : Nat) : Int) by omega]
theorem sum_take_le (l : List Nat) (j : Nat) : (l.take j).sum ≤ l.sum := by
  have : (l.take j).sum + (l.drop j).sum = l.sum := by rw [← List.sum_append_nat, List.take_append_drop]
  omega
/-- What a call leaves that answers rows of its own and a yes or no. -/
def OutIntss (w : World) (yss : List (List Int)) (b : Bool) (e : Ending) (w' : World) : Prop :=
  ∃ A c, e = .returned (.tuple #[.slice A yss.length c, .bool b]) ∧ Own2 w' w.heap.size (.slice A yss.length c) yss ∧ Below w.heap.size w w'
end Go.Proofs.Ytpnmnkdnlajfiaa
