/- Plain mathematics of symmetries: tables, a quarter turn, a mirroring, a chart's picture after a symmetry. -/
import Derived.Test.YtjfdcmdgpeeabaaRunMath
namespace Go.Proofs.Ytjfdcmdgpeeabaa
open Go.RowKit

/-- A table of h rows with k numbers each. -/
def gridL (h k : Nat) (f : Nat → Nat → Int) : List Int := (List.range (h * k)).map fun q => f (q / k) (q % k)
theorem gridL_len (h k : Nat) (f : Nat → Nat → Int) : (gridL h k f).length = h * k := by simp [gridL]
theorem grid_lt {h k i j : Nat} (hi : i < h) (hj : j < k) : i * k + j < h * k := by
  have : (i + 1) * k ≤ h * k := Nat.mul_le_mul_right _ hi
  rw [Nat.succ_mul] at this
  omega
theorem gridL_at {h k i j : Nat} {f : Nat → Nat → Int} (hi : i < h) (hj : j < k) : (gridL h k f)[i * k + j]? = some (f i j) := by
  rw [gridL, List.getElem?_map, List.getElem?_range (grid_lt hi hj)]
  rw [Nat.mul_comm i k]
  simp only [Option.map_some]
  rw [Nat.mul_add_div (by omega), Nat.div_eq_of_lt hj, Nat.add_zero, Nat.mul_add_mod, Nat.mod_eq_of_lt hj]
theorem gridL_get {h k i j : Nat} {f : Nat → Nat → Int} (hi : i < h) (hj : j < k) : (gridL h k f).getD (i * k + j) 0 = f i j := by
  rw [List.getD_eq_getElem?_getD, gridL_at hi hj]; rfl
theorem gridL_take {h k i j : Nat} {f : Nat → Nat → Int} (hi : i < h) (hj : j < k) :
    (gridL h k f).take (i * k + j + 1) = (gridL h k f).take (i * k + j) ++ [f i j] := by
  have hlt : i * k + j < (gridL h k f).length := by rw [gridL_len]; exact grid_lt hi hj
  rw [List.take_succ_eq_append_getElem hlt]
  congr 2
  have := gridL_at (f := f) hi hj
  rw [List.getElem?_eq_getElem hlt] at this
  exact Option.some.inj this
theorem gridL_all {h k : Nat} {f : Nat → Nat → Int} : (gridL h k f).take (h * k) = gridL h k f := List.take_of_length_le (by rw [gridL_len]; exact Nat.le_refl _)
/-- A place of a table is one of a row and of a column. -/
theorem place_of {h k q : Nat} (hq : q < h * k) : q / k < h ∧ q % k < k ∧ q = q / k * k + q % k := by
  have hk : 0 < k := by
    rcases Nat.eq_zero_or_pos k with rfl | h0
    · simp at hq
    · exact h0
  refine ⟨Nat.div_lt_of_lt_mul (by rwa [Nat.mul_comm] at hq), Nat.mod_lt _ hk, ?_⟩
  have := Nat.div_add_mod q k
  rw [Nat.mul_comm] at this
  exact this.symm
theorem list_ext0 {xs ys : List Int} (hl : xs.length = ys.length) (h : ∀ q, q < xs.length → xs.getD q 0 = ys.getD q 0) : xs = ys := by
  apply List.ext_getElem hl
  intro q h1 h2
  rw [← getD_at h1, ← getD_at h2]
  exact h q h1
theorem gridL_ext {h k : Nat} {f : Nat → Nat → Int} {xs : List Int} (hl : xs.length = h * k) (he : ∀ i j, i < h → j < k → xs.getD (i * k + j) 0 = f i j) : xs = gridL h k f := by
  refine list_ext0 (by rw [gridL_len, hl]) fun q hq => ?_
  obtain ⟨h1, h2, h3⟩ := place_of (by rwa [hl] at hq)
  rw [h3, he _ _ h1 h2, gridL_get h1 h2]
theorem gridL_congr {h k : Nat} {f g : Nat → Nat → Int} (he : ∀ i j, i < h → j < k → f i j = g i j) : gridL h k f = gridL h k g :=
  gridL_ext (gridL_len _ _ _) fun i j hi hj => by rw [gridL_get hi hj, he i j hi hj]

/-- A quarter turn to the right of a chart with m columns and k rows. -/
def turnL (m k : Nat) (xs : List Int) : List Int := gridL m k fun i j => elt m xs (k - 1 - j) i
/-- A mirroring from left to right. -/
def mirrorL (m k : Nat) (xs : List Int) : List Int := gridL k m fun i j => elt m xs i (m - 1 - j)
theorem turnL_len (m k : Nat) (xs : List Int) : (turnL m k xs).length = m * k := gridL_len _ _ _
theorem mirrorL_len (m k : Nat) (xs : List Int) : (mirrorL m k xs).length = k * m := gridL_len _ _ _
/-- A chart with m columns and k rows. -/
structure Pic where
  m : Nat
  k : Nat
  xs : List Int
def Pic.turn (p : Pic) : Pic := ⟨p.k, p.m, turnL p.m p.k p.xs⟩
def Pic.mirror (p : Pic) : Pic := ⟨p.m, p.k, mirrorL p.m p.k p.xs⟩
/-- After some quarter turns. -/
def Pic.turns (p : Pic) : Nat → Pic
  | 0 => p
  | t + 1 => (p.turns t).turn
/-- After a symmetry. -/
def Pic.move (p : Pic) (s : Nat) : Pic := (if 4 ≤ s then p.mirror else p).turns (s % 4)
/-- Its sides are sides, and it has as many knots. -/
def Pic.Ok (p : Pic) : Prop := 1 ≤ p.m ∧ p.m ≤ 8 ∧ 1 ≤ p.k ∧ p.k ≤ 8 ∧ p.xs.length = p.m * p.k
theorem Pic.Ok.turn {p : Pic} (h : p.Ok) : p.turn.Ok := ⟨h.2.2.1, h.2.2.2.1, h.1, h.2.1, (turnL_len _ _ _).trans (Nat.mul_comm _ _)⟩
theorem Pic.Ok.mirror {p : Pic} (h : p.Ok) : p.mirror.Ok := ⟨h.1, h.2.1, h.2.2.1, h.2.2.2.1, (mirrorL_len _ _ _).trans (Nat.mul_comm _ _)⟩
theorem Pic.Ok.turns {p : Pic} (h : p.Ok) : ∀ t, (p.turns t).Ok
  | 0 => h
  | t + 1 => (h.turns t).turn
theorem Pic.Ok.move {p : Pic} (h : p.Ok) (s : Nat) : (p.move s).Ok := by
  unfold Pic.move
  split
  · exact h.mirror.turns _
  · exact h.turns _
theorem Pic.Ok.len {p : Pic} (h : p.Ok) : p.xs.length ≤ 64 ∧ 1 ≤ p.xs.length := by
  obtain ⟨a, b, c, d, e⟩ := h
  have h1 : p.m * p.k ≤ 8 * 8 := Nat.mul_le_mul b d
  have h2 : 1 * 1 ≤ p.m * p.k := Nat.mul_le_mul a c
  omega
theorem pic_ok {m k : Nat} {xs : List Int} (a : 1 ≤ m) (b : m ≤ 8) (c : 1 ≤ k) (d : k ≤ 8) (e : xs.length = m * k) : (⟨m, k, xs⟩ : Pic).Ok := ⟨a, b, c, d, e⟩
theorem Pic.turns_sides (p : Pic) : ∀ t, (p.turns t).m = (if t % 2 = 0 then p.m else p.k) ∧ (p.turns t).k = (if t % 2 = 0 then p.k else p.m)
  | 0 => by simp [Pic.turns]
  | t + 1 => by
    have ih := p.turns_sides t
    show (p.turns t).turn.m = _ ∧ (p.turns t).turn.k = _
    show (p.turns t).k = _ ∧ (p.turns t).m = _
    rw [ih.1, ih.2]
    by_cases h : t % 2 = 0
    · have h' : ¬ (t + 1) % 2 = 0 := by omega
      simp [h, h']
    · have h' : (t + 1) % 2 = 0 := by omega
      simp [h, h']
theorem Pic.move_sides (p : Pic) (s : Nat) : (p.move s).m = (if s % 2 = 0 then p.m else p.k) ∧ (p.move s).k = (if s % 2 = 0 then p.k else p.m) := by
  have e : s % 4 % 2 = s % 2 := by omega
  unfold Pic.move
  split
  · have := p.mirror.turns_sides (s % 4)
    rw [e] at this
    exact this
  · have := p.turns_sides (s % 4)
    rw [e] at this
    exact this
/-- A chart has a symmetry. -/
def Pic.same (p : Pic) (s : Nat) : Bool := decide ((p.move s).m = p.m ∧ (p.move s).k = p.k ∧ (p.move s).xs = p.xs)
/-- A chart keeps its size. -/
def keepsB (m k s : Nat) : Bool := decide (m = k ∨ s % 2 = 0)
theorem keeps_iff (p : Pic) (s : Nat) : keepsB p.m p.k s = true ↔ (p.move s).m = p.m ∧ (p.move s).k = p.k := by
  rw [(p.move_sides s).1, (p.move_sides s).2]
  simp only [keepsB, decide_eq_true_eq]
  by_cases h : s % 2 = 0 <;> simp [h]
  exact fun h => h.symm
theorem same_keeps {p : Pic} {s : Nat} (h : keepsB p.m p.k s = true) : p.same s = decide ((p.move s).xs = p.xs) := by
  have := (keeps_iff p s).1 h
  simp [Pic.same, this.1, this.2]
theorem same_not {p : Pic} {s : Nat} (h : keepsB p.m p.k s = false) : p.same s = false := by
  have : ¬ ((p.move s).m = p.m ∧ (p.move s).k = p.k) := fun e => by rw [(keeps_iff p s).2 e] at h; cases h
  simp only [Pic.same, decide_eq_false_iff_not]
  exact fun e => this ⟨e.1, e.2.1⟩
/-- A symmetry is a number from 0 to 7. -/
def isSymB (s : Int) : Bool := decide (0 ≤ s ∧ s ≤ 7)
theorem isSymB_yes {s : Int} (h : isSymB s = true) : ∃ n : Nat, s = n ∧ n ≤ 7 := by
  simp [isSymB] at h
  obtain ⟨n, rfl⟩ := Int.eq_ofNat_of_zero_le h.1
  exact ⟨n, rfl, by omega⟩
end Go.Proofs.Ytjfdcmdgpeeabaa
