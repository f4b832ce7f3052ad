/- Several texts of this proof in one: ChartMath, RunMath, PartMath, SymMath, PutMath, TileMath, MotMath. No condition. -/
import Derived.Test.YtpmhnklmhfadlaaMem
namespace Go.Proofs.Ytpmhnklmhfadlaa
open Go.RowKit

def orZero (b : Bool) (x : Int) : Int := if b = true then x else 0
def isSideB (n : Int) : Bool := decide (1 ≤ n ∧ n ≤ 8)
def isColorB (n : Int) : Bool := decide (0 ≤ n ∧ n < 6)
theorem isSideB_yes {n : Int} (h : isSideB n = true) : 1 ≤ n ∧ n ≤ 8 := by simpa [isSideB] using h
theorem isSideB_no {n : Int} (h : ¬ isSideB n = true) : n < 1 ∨ 8 < n := by simp [isSideB] at h; omega
theorem isColorB_yes {n : Int} (h : isColorB n = true) : 0 ≤ n ∧ n < 6 := by simpa [isColorB] using h
theorem isColorB_no {n : Int} (h : isColorB n = false) : n < 0 ∨ 6 ≤ n := by simp [isColorB] at h; omega
/-- A chart is valid. -/
def goodB (W H : Int) (xs : List Int) : Bool := isSideB W && isSideB H && decide ((xs.length : Int) = W * H) && xs.all isColorB
theorem goodB_yes {W H : Int} {xs : List Int} (h : goodB W H xs = true) : (1 ≤ W ∧ W ≤ 8) ∧ (1 ≤ H ∧ H ≤ 8) ∧ (xs.length : Int) = W * H ∧ ∀ x ∈ xs, 0 ≤ x ∧ x < 6 := by
  simp only [goodB, Bool.and_eq_true, decide_eq_true_eq, List.all_eq_true] at h
  exact ⟨isSideB_yes h.1.1.1, isSideB_yes h.1.1.2, h.1.2, fun x hx => isColorB_yes (h.2 x hx)⟩
theorem all_step {p : Int → Bool} {xs : List Int} {k : Nat} {x : Int} (h : (xs.take k).all p = true) (hk : k < xs.length) (hx : xs.getD k 0 = x) (hp : p x = true) : (xs.take (k + 1)).all p = true := by
  rw [List.take_succ_eq_append_getElem hk, List.all_append, h, ← getD_at hk, hx]; simp [hp]
theorem all_bad {p : Int → Bool} {xs : List Int} {k : Nat} {x : Int} (hk : k < xs.length) (hx : xs.getD k 0 = x) (hp : p x = false) : xs.all p = false := by
  rw [List.all_eq_false]
  exact ⟨x, by rw [← hx, getD_at hk]; exact List.getElem_mem hk, by simp [hp]⟩
theorem all_end {p : Int → Bool} {xs : List Int} {k : Nat} (h : (xs.take k).all p = true) (hk : xs.length ≤ k) : xs.all p = true := by
  rwa [List.take_of_length_le hk] at h
theorem len_le {W H : Int} {n : Nat} (h : (n : Int) = W * H) (hW : 1 ≤ W ∧ W ≤ 8) (hH : 1 ≤ H ∧ H ≤ 8) : n ≤ 64 := by
  have : W * H ≤ 8 * 8 := Int.mul_le_mul hW.2 hH.2 (by omega) (by omega)
  omega
theorem good_nat {W H : Int} {xs : List Int} (h : goodB W H xs = true) : ∃ m k : Nat, W = m ∧ H = k ∧ 1 ≤ m ∧ m ≤ 8 ∧ 1 ≤ k ∧ k ≤ 8 ∧ Hid (xs.length = m * k) ∧ xs.length ≤ 64 ∧ 1 ≤ xs.length ∧ ∀ x ∈ xs, 0 ≤ x ∧ x < 6 := by
  obtain ⟨hW, hH, hl, hx⟩ := goodB_yes h
  obtain ⟨m, rfl⟩ := Int.eq_ofNat_of_zero_le (show 0 ≤ W by omega)
  obtain ⟨k, rfl⟩ := Int.eq_ofNat_of_zero_le (show 0 ≤ H by omega)
  have e : xs.length = m * k := by rw [← Int.natCast_mul] at hl; exact Int.ofNat_inj.1 hl
  have : m * k ≤ 8 * 8 := Nat.mul_le_mul (by omega) (by omega)
  have : 1 * 1 ≤ m * k := Nat.mul_le_mul (by omega) (by omega)
  exact ⟨m, k, rfl, rfl, by omega, by omega, by omega, by omega, e, by omega, by omega, hx⟩
theorem good_bd {W H : Int} {xs : List Int} (h : goodB W H xs = true) : xs.length ≤ 64 ∧ 1 ≤ xs.length ∧ ∀ x ∈ xs, 0 ≤ x ∧ x < 6 := by
  obtain ⟨_, _, _, _, _, _, _, _, _, a, b, c⟩ := good_nat h
  exact ⟨a, b, c⟩
/-- A row of a chart. -/
def rowL (m r : Nat) (xs : List Int) : List Int := (xs.drop (r * m)).take m
theorem row_le {m k r : Nat} {n : Nat} (hl : n = m * k) (hr : r < k) : r * m + m ≤ n := by
  rw [hl, ← Nat.succ_mul, Nat.mul_comm]; exact Nat.mul_le_mul_left _ hr
theorem at_lt {m k r j : Nat} {n : Nat} (hl : n = m * k) (hr : r < k) (hj : j < m) : r * m + j < n := by have := row_le hl hr; omega
theorem rowL_len {m k r : Nat} {xs : List Int} (hl : xs.length = m * k) (hr : r < k) : (rowL m r xs).length = m := by
  have := row_le hl hr
  simp only [rowL, List.length_take, List.length_drop]; omega
theorem rowL_get {m r j : Nat} {xs : List Int} (hj : j < m) : (rowL m r xs).getD j 0 = xs.getD (r * m + j) 0 := by
  rw [List.getD_eq_getElem?_getD, List.getD_eq_getElem?_getD, rowL, List.getElem?_take, if_pos hj, List.getElem?_drop]
/-- A part lies within a chart with the sides W and H. -/
def withinB (W H row col h k : Int) : Bool := decide (0 ≤ row ∧ 0 ≤ col ∧ 1 ≤ h ∧ 1 ≤ k ∧ h ≤ H - row ∧ k ≤ W - col)
theorem withinB_yes {W H row col h k : Int} (q : withinB W H row col h k = true) : 0 ≤ row ∧ 0 ≤ col ∧ 1 ≤ h ∧ 1 ≤ k ∧ h ≤ H - row ∧ k ≤ W - col := by simpa [withinB] using q
def knotOk (W H : Int) (xs : List Int) (row col : Int) : Bool := goodB W H xs && withinB W H row col 1 1
def knotV (W H : Int) (xs : List Int) (row col : Int) : Int := if knotOk W H xs row col = true then xs.getD (row.toNat * W.toNat + col.toNat) 0 else 0
theorem knotV_no {W H : Int} {xs : List Int} {row col : Int} (h : ¬ knotOk W H xs row col = true) : knotV W H xs row col = 0 := if_neg h
end Go.Proofs.Ytpmhnklmhfadlaa
namespace Go.Proofs.Ytpmhnklmhfadlaa
open Go.RowKit

/-- The run that ends in front of place k. -/
def cur (e : Nat → Int) : Nat → Int
  | 0 => 0
  | k + 1 => if 0 < k ∧ e k = e (k - 1) then cur e k + 1 else 1
/-- The longest run in front of place k. -/
def best (e : Nat → Int) : Nat → Int
  | 0 => 0
  | k + 1 => max (best e k) (cur e (k + 1))
theorem cur_succ (e : Nat → Int) (k : Nat) : cur e (k + 1) = if 0 < k ∧ e k = e (k - 1) then cur e k + 1 else 1 := rfl
theorem best_succ (e : Nat → Int) (k : Nat) : best e (k + 1) = max (best e k) (cur e (k + 1)) := rfl
theorem cur_bd (e : Nat → Int) (k : Nat) : 0 ≤ cur e k ∧ cur e k ≤ k := by
  induction k with
  | zero => exact ⟨Int.le_refl _, Int.le_refl _⟩
  | succ k ih => unfold cur; split <;> omega
theorem best_bd (e : Nat → Int) (k : Nat) : 0 ≤ best e k ∧ best e k ≤ k := by
  induction k with
  | zero => exact ⟨Int.le_refl _, Int.le_refl _⟩
  | succ k ih => have := cur_bd e (k + 1); unfold best; omega
theorem cur_congr {e e' : Nat → Int} {n : Nat} (h : ∀ j, j < n → e j = e' j) : ∀ k, k ≤ n → cur e k = cur e' k := by
  intro k
  induction k with
  | zero => intro _; rfl
  | succ k ih =>
    intro hk
    unfold cur
    rw [h k (by omega), h (k - 1) (by omega), ih (by omega)]
theorem best_congr {e e' : Nat → Int} {n : Nat} (h : ∀ j, j < n → e j = e' j) : ∀ k, k ≤ n → best e k = best e' k := by
  intro k
  induction k with
  | zero => intro _; rfl
  | succ k ih =>
    intro hk
    unfold best
    rw [ih (by omega), cur_congr h (k + 1) hk]
/-- A chart's knot. -/
def elt (m : Nat) (xs : List Int) (r j : Nat) : Int := xs.getD (r * m + j) 0
/-- The longest run of the first r rows. -/
def mostR (m : Nat) (xs : List Int) : Nat → Int
  | 0 => 0
  | r + 1 => max (mostR m xs r) (best (elt m xs r) m)
/-- The first row that has it. -/
def atR (m : Nat) (xs : List Int) : Nat → Int
  | 0 => 0
  | r + 1 => if mostR m xs r < best (elt m xs r) m then r else atR m xs r
theorem mostR_bd (m : Nat) (xs : List Int) (r : Nat) : 0 ≤ mostR m xs r ∧ mostR m xs r ≤ m := by
  induction r with
  | zero => exact ⟨Int.le_refl _, by unfold mostR; omega⟩
  | succ r ih => have := best_bd (elt m xs r) m; unfold mostR; omega
theorem atR_bd (m : Nat) (xs : List Int) (r : Nat) : 0 ≤ atR m xs r ∧ atR m xs r ≤ r := by
  induction r with
  | zero => exact ⟨Int.le_refl _, Int.le_refl _⟩
  | succ r ih => unfold atR; split <;> omega
theorem row_elt {m r : Nat} {xs : List Int} : best (fun j => (rowL m r xs).getD j 0) m = best (elt m xs r) m :=
  best_congr (n := m) (fun _ hj => rowL_get hj) m (Nat.le_refl _)
def runN (W H : Int) (xs : List Int) : Int := if goodB W H xs = true then mostR W.toNat xs H.toNat else 0
def runR (W H : Int) (xs : List Int) : Int := if goodB W H xs = true then atR W.toNat xs H.toNat else 0
end Go.Proofs.Ytpmhnklmhfadlaa
namespace Go.Proofs.Ytpmhnklmhfadlaa
open Go.RowKit

/-- The knots of a part. -/
def partL (m : Nat) (xs : List Int) (r c h k : Nat) : List Int := (List.range (h * k)).map fun q => elt m xs (r + q / k) (c + q % k)
theorem partL_len (m : Nat) (xs : List Int) (r c h k : Nat) : (partL m xs r c h k).length = h * k := by simp [partL]
theorem partL_take {m : Nat} {xs : List Int} {r c h k i j : Nat} (hi : i < h) (hj : j < k) :
    (partL m xs r c h k).take (i * k + j + 1) = (partL m xs r c h k).take (i * k + j) ++ [elt m xs (r + i) (c + j)] := by
  have hlt : i * k + j < (partL m xs r c h k).length := by
    rw [partL_len]
    have : (i + 1) * k ≤ h * k := Nat.mul_le_mul_right _ hi
    rw [Nat.succ_mul] at this
    omega
  rw [List.take_succ_eq_append_getElem hlt]
  congr 2
  simp only [partL, List.getElem_map, List.getElem_range]
  rw [Nat.mul_comm i k, Nat.mul_add_div (by omega), Nat.div_eq_of_lt hj, Nat.add_zero, Nat.mul_add_mod, Nat.mod_eq_of_lt hj]
theorem partL_all {m : Nat} {xs : List Int} {r c h k : Nat} : (partL m xs r c h k).take (h * k) = partL m xs r c h k := List.take_of_length_le (by rw [partL_len]; exact Nat.le_refl _)
theorem take_len {l : List Int} {n : Nat} (h : n ≤ l.length) : (l.take n).length = n := by rw [List.length_take]; omega
end Go.Proofs.Ytpmhnklmhfadlaa
namespace Go.Proofs.Ytpmhnklmhfadlaa
open Go.RowKit

/-- A table of h rows with k numbers each. -/
def gridL (h k : Nat) (f : Nat → Nat → Int) : List Int := (List.range (h * k)).map fun q => f (q / k) (q % k)
theorem gridL_len (h k : Nat) (f : Nat → Nat → Int) : (gridL h k f).length = h * k := by simp [gridL]
theorem grid_lt {h k i j : Nat} (hi : i < h) (hj : j < k) : i * k + j < h * k := by
  have : (i + 1) * k ≤ h * k := Nat.mul_le_mul_right _ hi
  rw [Nat.succ_mul] at this
  omega
theorem gridL_at {h k i j : Nat} {f : Nat → Nat → Int} (hi : i < h) (hj : j < k) : (gridL h k f)[i * k + j]? = some (f i j) := by
  rw [gridL, List.getElem?_map, List.getElem?_range (grid_lt hi hj)]
  rw [Nat.mul_comm i k]
  simp only [Option.map_some]
  rw [Nat.mul_add_div (by omega), Nat.div_eq_of_lt hj, Nat.add_zero, Nat.mul_add_mod, Nat.mod_eq_of_lt hj]
theorem gridL_get {h k i j : Nat} {f : Nat → Nat → Int} (hi : i < h) (hj : j < k) : (gridL h k f).getD (i * k + j) 0 = f i j := by
  rw [List.getD_eq_getElem?_getD, gridL_at hi hj]; rfl
theorem gridL_take {h k i j : Nat} {f : Nat → Nat → Int} (hi : i < h) (hj : j < k) :
    (gridL h k f).take (i * k + j + 1) = (gridL h k f).take (i * k + j) ++ [f i j] := by
  have hlt : i * k + j < (gridL h k f).length := by rw [gridL_len]; exact grid_lt hi hj
  rw [List.take_succ_eq_append_getElem hlt]
  congr 2
  have := gridL_at (f := f) hi hj
  rw [List.getElem?_eq_getElem hlt] at this
  exact Option.some.inj this
theorem gridL_all {h k : Nat} {f : Nat → Nat → Int} : (gridL h k f).take (h * k) = gridL h k f := List.take_of_length_le (by rw [gridL_len]; exact Nat.le_refl _)
/-- A place of a table is one of a row and of a column. -/
theorem place_of {h k q : Nat} (hq : q < h * k) : q / k < h ∧ q % k < k ∧ q = q / k * k + q % k := by
  have hk : 0 < k := by
    rcases Nat.eq_zero_or_pos k with rfl | h0
    · simp at hq
    · exact h0
  refine ⟨Nat.div_lt_of_lt_mul (by rwa [Nat.mul_comm] at hq), Nat.mod_lt _ hk, ?_⟩
  have := Nat.div_add_mod q k
  rw [Nat.mul_comm] at this
  exact this.symm
theorem list_ext0 {xs ys : List Int} (hl : xs.length = ys.length) (h : ∀ q, q < xs.length → xs.getD q 0 = ys.getD q 0) : xs = ys := by
  apply List.ext_getElem hl
  intro q h1 h2
  rw [← getD_at h1, ← getD_at h2]
  exact h q h1
theorem gridL_ext {h k : Nat} {f : Nat → Nat → Int} {xs : List Int} (hl : xs.length = h * k) (he : ∀ i j, i < h → j < k → xs.getD (i * k + j) 0 = f i j) : xs = gridL h k f := by
  refine list_ext0 (by rw [gridL_len, hl]) fun q hq => ?_
  obtain ⟨h1, h2, h3⟩ := place_of (by rwa [hl] at hq)
  rw [h3, he _ _ h1 h2, gridL_get h1 h2]
theorem gridL_congr {h k : Nat} {f g : Nat → Nat → Int} (he : ∀ i j, i < h → j < k → f i j = g i j) : gridL h k f = gridL h k g :=
  gridL_ext (gridL_len _ _ _) fun i j hi hj => by rw [gridL_get hi hj, he i j hi hj]

/-- A quarter turn to the right of a chart with m columns and k rows. -/
def turnL (m k : Nat) (xs : List Int) : List Int := gridL m k fun i j => elt m xs (k - 1 - j) i
/-- A mirroring from left to right. -/
def mirrorL (m k : Nat) (xs : List Int) : List Int := gridL k m fun i j => elt m xs i (m - 1 - j)
theorem turnL_len (m k : Nat) (xs : List Int) : (turnL m k xs).length = m * k := gridL_len _ _ _
theorem mirrorL_len (m k : Nat) (xs : List Int) : (mirrorL m k xs).length = k * m := gridL_len _ _ _
/-- A chart with m columns and k rows. -/
structure Pic where
  m : Nat
  k : Nat
  xs : List Int
def Pic.turn (p : Pic) : Pic := ⟨p.k, p.m, turnL p.m p.k p.xs⟩
def Pic.mirror (p : Pic) : Pic := ⟨p.m, p.k, mirrorL p.m p.k p.xs⟩
/-- After some quarter turns. -/
def Pic.turns (p : Pic) : Nat → Pic
  | 0 => p
  | t + 1 => (p.turns t).turn
/-- After a symmetry. -/
def Pic.move (p : Pic) (s : Nat) : Pic := (if 4 ≤ s then p.mirror else p).turns (s % 4)
/-- Its sides are sides, and it has as many knots. -/
def Pic.Ok (p : Pic) : Prop := 1 ≤ p.m ∧ p.m ≤ 8 ∧ 1 ≤ p.k ∧ p.k ≤ 8 ∧ p.xs.length = p.m * p.k
theorem Pic.Ok.turn {p : Pic} (h : p.Ok) : p.turn.Ok := ⟨h.2.2.1, h.2.2.2.1, h.1, h.2.1, (turnL_len _ _ _).trans (Nat.mul_comm _ _)⟩
theorem Pic.Ok.mirror {p : Pic} (h : p.Ok) : p.mirror.Ok := ⟨h.1, h.2.1, h.2.2.1, h.2.2.2.1, (mirrorL_len _ _ _).trans (Nat.mul_comm _ _)⟩
theorem Pic.Ok.turns {p : Pic} (h : p.Ok) : ∀ t, (p.turns t).Ok
  | 0 => h
  | t + 1 => (h.turns t).turn
theorem Pic.Ok.move {p : Pic} (h : p.Ok) (s : Nat) : (p.move s).Ok := by
  unfold Pic.move
  split
  · exact h.mirror.turns _
  · exact h.turns _
theorem Pic.Ok.len {p : Pic} (h : p.Ok) : p.xs.length ≤ 64 ∧ 1 ≤ p.xs.length := by
  obtain ⟨a, b, c, d, e⟩ := h
  have h1 : p.m * p.k ≤ 8 * 8 := Nat.mul_le_mul b d
  have h2 : 1 * 1 ≤ p.m * p.k := Nat.mul_le_mul a c
  omega
theorem pic_ok {m k : Nat} {xs : List Int} (a : 1 ≤ m) (b : m ≤ 8) (c : 1 ≤ k) (d : k ≤ 8) (e : xs.length = m * k) : (⟨m, k, xs⟩ : Pic).Ok := ⟨a, b, c, d, e⟩
theorem Pic.turns_sides (p : Pic) : ∀ t, (p.turns t).m = (if t % 2 = 0 then p.m else p.k) ∧ (p.turns t).k = (if t % 2 = 0 then p.k else p.m)
  | 0 => by simp [Pic.turns]
  | t + 1 => by
    have ih := p.turns_sides t
    show (p.turns t).turn.m = _ ∧ (p.turns t).turn.k = _
    show (p.turns t).k = _ ∧ (p.turns t).m = _
    rw [ih.1, ih.2]
    by_cases h : t % 2 = 0
    · have h' : ¬ (t + 1) % 2 = 0 := by omega
      simp [h, h']
    · have h' : (t + 1) % 2 = 0 := by omega
      simp [h, h']
theorem Pic.move_sides (p : Pic) (s : Nat) : (p.move s).m = (if s % 2 = 0 then p.m else p.k) ∧ (p.move s).k = (if s % 2 = 0 then p.k else p.m) := by
  have e : s % 4 % 2 = s % 2 := by omega
  unfold Pic.move
  split
  · have := p.mirror.turns_sides (s % 4)
    rw [e] at this
    exact this
  · have := p.turns_sides (s % 4)
    rw [e] at this
    exact this
/-- A chart has a symmetry. -/
def Pic.same (p : Pic) (s : Nat) : Bool := decide ((p.move s).m = p.m ∧ (p.move s).k = p.k ∧ (p.move s).xs = p.xs)
/-- A chart keeps its size. -/
def keepsB (m k s : Nat) : Bool := decide (m = k ∨ s % 2 = 0)
theorem keeps_iff (p : Pic) (s : Nat) : keepsB p.m p.k s = true ↔ (p.move s).m = p.m ∧ (p.move s).k = p.k := by
  rw [(p.move_sides s).1, (p.move_sides s).2]
  simp only [keepsB, decide_eq_true_eq]
  by_cases h : s % 2 = 0 <;> simp [h]
  exact fun h => h.symm
theorem same_keeps {p : Pic} {s : Nat} (h : keepsB p.m p.k s = true) : p.same s = decide ((p.move s).xs = p.xs) := by
  have := (keeps_iff p s).1 h
  simp [Pic.same, this.1, this.2]
theorem same_not {p : Pic} {s : Nat} (h : keepsB p.m p.k s = false) : p.same s = false := by
  have : ¬ ((p.move s).m = p.m ∧ (p.move s).k = p.k) := fun e => by rw [(keeps_iff p s).2 e] at h; cases h
  simp only [Pic.same, decide_eq_false_iff_not]
  exact fun e => this ⟨e.1, e.2.1⟩
/-- A symmetry is a number from 0 to 7. -/
def isSymB (s : Int) : Bool := decide (0 ≤ s ∧ s ≤ 7)
theorem isSymB_yes {s : Int} (h : isSymB s = true) : ∃ n : Nat, s = n ∧ n ≤ 7 := by
  simp [isSymB] at h
  obtain ⟨n, rfl⟩ := Int.eq_ofNat_of_zero_le h.1
  exact ⟨n, rfl, by omega⟩
end Go.Proofs.Ytpmhnklmhfadlaa
namespace Go.Proofs.Ytpmhnklmhfadlaa
open Go.RowKit

/-- Which of two knots stands at a place, when the first i0 rows of the part and j0 of the next are put in at row r and column q. -/
def putE (m pm : Nat) (xs ys : List Int) (r q i0 j0 i j : Nat) : Int :=
  if q ≤ j ∧ j < q + pm ∧ r ≤ i ∧ (i < r + i0 ∨ (i = r + i0 ∧ j < q + j0)) then elt pm ys (i - r) (j - q) else elt m xs i j
/-- The chart so far. -/
def PutTo (m kk pm : Nat) (xs ys : List Int) (r q i0 j0 : Nat) (zs : List Int) : Prop :=
  zs.length = m * kk ∧ ∀ i j, i < kk → j < m → zs.getD (i * m + j) 0 = putE m pm xs ys r q i0 j0 i j
/-- The chart with the part. -/
def putL (m kk pm pk : Nat) (xs ys : List Int) (r q : Nat) : List Int := gridL kk m fun i j => putE m pm xs ys r q pk 0 i j
theorem putL_len (m kk pm pk : Nat) (xs ys : List Int) (r q : Nat) : (putL m kk pm pk xs ys r q).length = kk * m := gridL_len _ _ _
theorem put_start {m kk pm r q : Nat} {xs ys : List Int} (h : xs.length = m * kk) : PutTo m kk pm xs ys r q 0 0 xs :=
  ⟨h, fun i j _ _ => by rw [putE, if_neg (by omega)]; rfl⟩
theorem put_end {m kk pm pk r q : Nat} {xs ys zs : List Int} (h : PutTo m kk pm xs ys r q pk 0 zs) : zs = putL m kk pm pk xs ys r q :=
  gridL_ext (by rw [h.1, Nat.mul_comm]) h.2
theorem put_next {m kk pm r q i0 : Nat} {xs ys zs : List Int} (h : PutTo m kk pm xs ys r q i0 pm zs) : PutTo m kk pm xs ys r q (i0 + 1) 0 zs := by
  refine ⟨h.1, fun i j hi hj => ?_⟩
  rw [h.2 i j hi hj]
  unfold putE
  by_cases e : q ≤ j ∧ j < q + pm ∧ r ≤ i ∧ (i < r + i0 ∨ (i = r + i0 ∧ j < q + pm))
  · rw [if_pos e, if_pos (by omega)]
  · rw [if_neg e, if_neg (by omega)]
theorem place_ne {m i i' j j' : Nat} (hj : j < m) (hj' : j' < m) (h : i * m + j = i' * m + j') : i = i' ∧ j = j' := by
  have h1 : (i * m + j) / m = i := by rw [Nat.mul_comm, Nat.mul_add_div (by omega), Nat.div_eq_of_lt hj, Nat.add_zero]
  have h2 : (i' * m + j') / m = i' := by rw [Nat.mul_comm, Nat.mul_add_div (by omega), Nat.div_eq_of_lt hj', Nat.add_zero]
  have : i = i' := by rw [← h1, h, h2]
  subst this
  exact ⟨rfl, by omega⟩
theorem put_one {m kk pm r q i0 j0 : Nat} {xs ys zs : List Int} {x : Int} (h : PutTo m kk pm xs ys r q i0 j0 zs) (hi : r + i0 < kk) (hj : j0 < pm) (hq : q + pm ≤ m) (hx : elt pm ys i0 j0 = x) :
    PutTo m kk pm xs ys r q i0 (j0 + 1) (zs.set ((r + i0) * m + (q + j0)) x) := by
  refine ⟨by rw [List.length_set]; exact h.1, fun i j hi' hj' => ?_⟩
  have hlt := at_lt h.1 hi (show q + j0 < m by omega)
  by_cases e : (r + i0) * m + (q + j0) = i * m + j
  · obtain ⟨e1, e2⟩ := place_ne (show q + j0 < m by omega) hj' e
    rw [← e, List.getD_eq_getElem?_getD, List.getElem?_set_self hlt, putE, if_pos (by omega), ← e1, ← e2, Nat.add_sub_cancel_left, Nat.add_sub_cancel_left, hx]
    rfl
  · rw [List.getD_eq_getElem?_getD, List.getElem?_set_ne e, ← List.getD_eq_getElem?_getD, h.2 i j hi' hj']
    have e' : ¬ (i = r + i0 ∧ j = q + j0) := fun ⟨a, b⟩ => e (by rw [a, b])
    unfold putE
    by_cases e3 : q ≤ j ∧ j < q + pm ∧ r ≤ i ∧ (i < r + i0 ∨ (i = r + i0 ∧ j < q + j0))
    · rw [if_pos e3, if_pos (by omega)]
    · rw [if_neg e3, if_neg (by omega)]
/-- A whole row of the part at once. -/
theorem put_row {m kk pm r q i0 : Nat} {xs ys zs row : List Int} (h : PutTo m kk pm xs ys r q i0 0 zs) (hi : r + i0 < kk) (hq : q + pm ≤ m) (hl : row.length = pm) (hrow : ∀ j, j < pm → row.getD j 0 = elt pm ys i0 j) :
    PutTo m kk pm xs ys r q (i0 + 1) 0 (splice zs ((r + i0) * m + q) row) := by
  have hle := row_le h.1 hi
  refine ⟨by rw [length_splice _ _ _ (by omega)]; exact h.1, fun i j hi' hj' => ?_⟩
  have hg : (splice zs ((r + i0) * m + q) row).getD (i * m + j) 0 = if (r + i0) * m + q ≤ i * m + j ∧ i * m + j < (r + i0) * m + q + pm then row.getD (i * m + j - ((r + i0) * m + q)) 0 else zs.getD (i * m + j) 0 := by
    unfold splice
    simp only [List.getD_eq_getElem?_getD, List.getElem?_append, List.length_take, List.getElem?_take, List.getElem?_drop]
    rw [Nat.min_eq_left (by omega)]
    by_cases c1 : i * m + j < (r + i0) * m + q
    · rw [if_pos c1, if_pos c1, if_neg (by omega)]
    · rw [if_neg c1]
      by_cases c2 : i * m + j - ((r + i0) * m + q) < row.length
      · rw [if_pos c2, if_pos (by omega)]
      · rw [if_neg c2, if_neg (by omega)]
        congr 2
        omega
  rw [hg]
  by_cases e : i = r + i0
  · subst e
    by_cases c : q ≤ j ∧ j < q + pm
    · rw [if_pos (by omega), show (r + i0) * m + j - ((r + i0) * m + q) = j - q by omega, hrow _ (by omega), putE, if_pos (by omega), Nat.add_sub_cancel_left]
    · rw [if_neg (by omega), h.2 _ _ hi' hj', putE, putE, if_neg (by omega), if_neg (by omega)]
  · have hn : ¬ ((r + i0) * m + q ≤ i * m + j ∧ i * m + j < (r + i0) * m + q + pm) := by
      rcases Nat.lt_or_gt_of_ne e with e | e
      · have := Nat.mul_le_mul_right m e
        rw [Nat.succ_mul] at this
        omega
      · have := Nat.mul_le_mul_right m e
        rw [Nat.succ_mul] at this
        omega
    rw [if_neg hn, h.2 _ _ hi' hj']
    unfold putE
    by_cases e3 : q ≤ j ∧ j < q + pm ∧ r ≤ i ∧ (i < r + i0 ∨ (i = r + i0 ∧ j < q + 0))
    · rw [if_pos e3, if_pos (by omega)]
    · rw [if_neg e3, if_neg (by omega)]
end Go.Proofs.Ytpmhnklmhfadlaa
namespace Go.Proofs.Ytpmhnklmhfadlaa
open Go.RowKit

/-- A chart of a times d copies with m columns and k rows: what stands in a copy is told by f. -/
def tileL (m k a d : Nat) (f : Nat → Nat → Nat → Nat → Int) : List Int := gridL (d * k) (a * m) fun i j => f (i / k) (j / m) (i % k) (j % m)
/-- The copies ahead of copy k0 in row i0 of copies stand. -/
def TileTo (m k a d : Nat) (f : Nat → Nat → Nat → Nat → Int) (i0 k0 : Nat) (zs : List Int) : Prop :=
  zs.length = (a * m) * (d * k) ∧ ∀ i j, i < d * k → j < a * m → (i / k < i0 ∨ (i / k = i0 ∧ j / m < k0)) → zs.getD (i * (a * m) + j) 0 = f (i / k) (j / m) (i % k) (j % m)
section
variable {m k a d i0 k0 : Nat} {f : Nat → Nat → Nat → Nat → Int} {zs ys : List Int}
theorem tileL_len : (tileL m k a d f).length = (d * k) * (a * m) := gridL_len _ _ _
theorem tile_start (h : zs.length = (a * m) * (d * k)) : TileTo m k a d f 0 0 zs := ⟨h, fun i j _ _ hh => by
  rcases hh with hh | ⟨_, hh⟩
  · exact absurd hh (Nat.not_lt_zero _)
  · exact absurd hh (Nat.not_lt_zero _)⟩
theorem tile_row (h : TileTo m k a d f i0 a zs) : TileTo m k a d f (i0 + 1) 0 zs := by
  refine ⟨h.1, fun i j hi hj hh => h.2 i j hi hj ?_⟩
  have : j / m < a := Nat.div_lt_of_lt_mul (by rw [Nat.mul_comm]; exact hj)
  generalize i / k = I at *
  generalize j / m = J at *
  omega
theorem tile_end (h : TileTo m k a d f d 0 zs) : zs = tileL m k a d f := by
  refine gridL_ext (by rw [h.1, Nat.mul_comm]) fun i j hi hj => h.2 i j hi hj ?_
  exact .inl (Nat.div_lt_of_lt_mul (by rw [Nat.mul_comm]; exact hi))
theorem div_block {i k i0 : Nat} (h1 : i0 * k ≤ i) (h2 : i < i0 * k + k) : i / k = i0 ∧ i % k = i - i0 * k := by
  have e : i / k = i0 := by
    apply Nat.div_eq_of_lt_le
    · exact h1
    · rw [Nat.succ_mul]; exact h2
  refine ⟨e, ?_⟩
  have := Nat.div_add_mod i k
  rw [e, Nat.mul_comm] at this
  omega
theorem block_of {i k i0 : Nat} (hk : 1 ≤ k) (e : i / k = i0) : i0 * k ≤ i ∧ i < i0 * k + k := by
  have h1 := Nat.div_add_mod i k
  have h2 := Nat.mod_lt i hk
  rw [e, Nat.mul_comm] at h1
  omega
theorem tile_one (hm : 1 ≤ m) (hk : 1 ≤ k) (h : TileTo m k a d f i0 k0 zs) (hf : ∀ i j, i < k → j < m → elt m ys i j = f i0 k0 i j) :
    TileTo m k a d f i0 (k0 + 1) (putL (a * m) (d * k) m k zs ys (i0 * k) (k0 * m)) := by
  refine ⟨by rw [putL_len, Nat.mul_comm], fun i j hi' hj' hh => ?_⟩
  unfold putL
  rw [gridL_get hi' hj']
  unfold putE
  by_cases e : i / k = i0 ∧ j / m = k0
  · obtain ⟨e1, e2⟩ := e
    obtain ⟨b1, b2⟩ := block_of hk e1
    obtain ⟨b3, b4⟩ := block_of hm e2
    rw [if_pos (by omega), hf _ _ (by omega) (by omega), e1, e2, (div_block b1 b2).2, (div_block b3 b4).2]
  · have hne : ¬ (k0 * m ≤ j ∧ j < k0 * m + m ∧ i0 * k ≤ i ∧ (i < i0 * k + k ∨ (i = i0 * k + k ∧ j < k0 * m + 0))) := fun hh => e ⟨(div_block hh.2.2.1 (by omega)).1, (div_block hh.1 hh.2.1).1⟩
    rw [if_neg hne]
    refine h.2 i j hi' hj' ?_
    generalize i / k = I at *
    generalize j / m = J at *
    omega
end
/-- A motif's copies. -/
def repF (m : Nat) (xs : List Int) (_ _ i j : Nat) : Int := elt m xs i j
def repL (m k : Nat) (xs : List Int) (a d : Nat) : List Int := tileL m k a d (repF m xs)
/-- .. of which every second one is mirrored. -/
def mirF (m : Nat) (xs : List Int) (_ c i j : Nat) : Int := if c % 2 = 1 then elt m xs i (m - 1 - j) else elt m xs i j
def mirRepL (m k : Nat) (xs : List Int) (a : Nat) : List Int := tileL m k a 1 (mirF m xs)
theorem mirror_elt {m k i j : Nat} {xs : List Int} (hi : i < k) (hj : j < m) : elt m (mirrorL m k xs) i j = elt m xs i (m - 1 - j) := gridL_get (f := fun i j => elt m xs i (m - 1 - j)) hi hj
/-- Two copies, the second one moved down by half. -/
def dropL (m k : Nat) (xs : List Int) : List Int := gridL k (2 * m) fun i j => if j < m then elt m xs i j else elt m xs ((i + k / 2) % k) (j - m)
theorem part_elt {m r c h k i j : Nat} {xs : List Int} (hi : i < h) (hj : j < k) : elt k (partL m xs r c h k) i j = elt m xs (r + i) (c + j) := by
  have : partL m xs r c h k = gridL h k fun i j => elt m xs (r + i) (c + j) := rfl
  rw [this]
  exact gridL_get hi hj
theorem drop_put {m h : Nat} {xs zs : List Int} :
    putL (2 * m) (2 * h) m h (putL (2 * m) (2 * h) m h (putL (2 * m) (2 * h) m (2 * h) zs xs 0 0) (partL m xs h 0 h m) 0 m) (partL m xs 0 0 h m) h m = dropL m (2 * h) xs := by
  unfold dropL
  rw [show 2 * h / 2 = h by omega]
  refine gridL_congr fun i j hi hj => ?_
  have hp : ∀ (us vs : List Int) (pk r q : Nat), elt (2 * m) (putL (2 * m) (2 * h) m pk us vs r q) i j = putE (2 * m) m us vs r q pk 0 i j := fun us vs pk r q => gridL_get hi hj
  unfold putE
  by_cases h1 : j < m
  · rw [if_neg (by omega), if_pos h1, hp]
    unfold putE
    rw [if_neg (by omega), hp]
    unfold putE
    rw [if_pos (by omega)]
    rfl
  · by_cases h2 : i < h
    · rw [if_neg (by omega), if_neg h1, hp]
      unfold putE
      rw [if_pos (by omega), part_elt (by omega) (by omega), Nat.mod_eq_of_lt (by omega)]
      congr 1 <;> omega
    · rw [if_pos (by omega), if_neg h1, part_elt (by omega) (by omega)]
      have : (i + h) % (2 * h) = i - h := by
        rw [show i + h = (i - h) + 2 * h by omega, Nat.add_mod_right, Nat.mod_eq_of_lt (by omega)]
      rw [this]
      congr 1 <;> omega
/-- A chart has a period across. -/
def acrossB (m k : Nat) (xs : List Int) (p : Nat) : Bool := (List.range k).all fun i => (List.range (m - p)).all fun j => decide (elt m xs i j = elt m xs i (j + p))
def downB (m k : Nat) (xs : List Int) (p : Nat) : Bool := (List.range (k - p)).all fun i => (List.range m).all fun j => decide (elt m xs i j = elt m xs (i + p) j)
theorem across_iff {m k p : Nat} {xs : List Int} : acrossB m k xs p = true ↔ ∀ i j, i < k → j + p < m → elt m xs i j = elt m xs i (j + p) := by
  simp only [acrossB, List.all_eq_true, List.mem_range, decide_eq_true_eq]
  exact ⟨fun h i j hi hj => h i hi j (by omega), fun h i hi j hj => h i j hi (by omega)⟩
theorem down_iff {m k p : Nat} {xs : List Int} : downB m k xs p = true ↔ ∀ i j, i + p < k → j < m → elt m xs i j = elt m xs (i + p) j := by
  simp only [downB, List.all_eq_true, List.mem_range, decide_eq_true_eq]
  exact ⟨fun h i j hi hj => h i (by omega) j hj, fun h i hi j hj => h i j (by omega) hj⟩
theorem turn_elt {m k i j : Nat} {xs : List Int} (hi : i < m) (hj : j < k) : elt k (turnL m k xs) i j = elt m xs (k - 1 - j) i := gridL_get hi hj
/-- Down in a chart is across in the turned one. -/
theorem across_turn {m k p : Nat} {xs : List Int} : acrossB k m (turnL m k xs) p = downB m k xs p := by
  rw [Bool.eq_iff_iff, across_iff, down_iff]
  constructor
  · intro h i j hi hj
    have := h j (k - 1 - (i + p)) hj (by omega)
    rw [turn_elt hj (by omega), turn_elt hj (by omega)] at this
    rw [show k - 1 - (k - 1 - (i + p)) = i + p by omega, show k - 1 - (k - 1 - (i + p) + p) = i by omega] at this
    exact this.symm
  · intro h i j hi hj
    rw [turn_elt hi (by omega), turn_elt hi (by omega)]
    have := h (k - 1 - (j + p)) i (by omega) hi
    rw [show k - 1 - (j + p) + p = k - 1 - j by omega] at this
    exact this.symm
/-- The first number from p on that passes, within n tries. -/
def firstP (g : Nat → Bool) : Nat → Nat → Nat
  | 0, p => p
  | n + 1, p => if g p = true then p else firstP g n (p + 1)
theorem firstP_yes {g : Nat → Bool} {n p : Nat} (h : g p = true) : firstP g n p = p := by
  cases n with
  | zero => rfl
  | succ n => rw [firstP, if_pos h]
theorem firstP_no {g : Nat → Bool} {n p : Nat} (h : g p = false) : firstP g (n + 1) p = firstP g n (p + 1) := by rw [firstP, if_neg (by rw [h]; decide)]
theorem firstP_le {g : Nat → Bool} : ∀ (n p : Nat), firstP g n p ≤ p + n
  | 0, p => Nat.le_refl _
  | n + 1, p => by
    rw [firstP]
    split
    · omega
    · have := firstP_le (g := g) n (p + 1); omega
theorem firstP_ge {g : Nat → Bool} : ∀ (n p : Nat), p ≤ firstP g n p
  | 0, p => Nat.le_refl _
  | n + 1, p => by
    rw [firstP]
    split
    · exact Nat.le_refl _
    · have := firstP_ge (g := g) n (p + 1); omega
theorem firstP_ok {g : Nat → Bool} : ∀ (n p : Nat), g (p + n) = true → g (firstP g n p) = true
  | 0, p, h => h
  | n + 1, p, h => by
    rw [firstP]
    split
    · assumption
    · exact firstP_ok n (p + 1) (by rw [show p + 1 + n = p + (n + 1) by omega]; exact h)
/-- What stands ahead of the first one does not pass. -/
theorem firstP_ahead {g : Nat → Bool} : ∀ (n p q : Nat), p ≤ q → q < firstP g n p → g q = false
  | 0, p, q, h1, h2 => by simp [firstP] at h2; omega
  | n + 1, p, q, h1, h2 => by
    rw [firstP] at h2
    split at h2
    · omega
    · rename_i hg
      rcases Nat.eq_or_lt_of_le h1 with rfl | h1
      · simpa using hg
      · exact firstP_ahead n (p + 1) q h1 h2
theorem firstP_eq {g : Nat → Bool} {n p q : Nat} (h1 : p ≤ q) (h2 : q ≤ p + n) (hq : g q = true) (h : ∀ r, p ≤ r → r < q → g r = false) : firstP g n p = q := by
  have hok : g (firstP g n p) = true ∨ firstP g n p = p + n := by
    clear hq h h1 h2
    induction n generalizing p with
    | zero => exact .inr rfl
    | succ n ih =>
      rw [firstP]
      split
      · exact .inl (by assumption)
      · rcases ih (p := p + 1) with h | h
        · exact .inl h
        · exact .inr (by omega)
  rcases Nat.lt_trichotomy (firstP g n p) q with hl | hl | hl
  · have h5 := h _ (firstP_ge n p) hl
    rcases hok with h6 | h6
    · rw [h5] at h6; cases h6
    · omega
  · exact hl
  · have := firstP_ahead n p q h1 hl
    rw [hq] at this
    cases this
theorem across_all {m k : Nat} {xs : List Int} : acrossB m k xs m = true := across_iff.2 fun i j _ hj => by omega
theorem down_all {m k : Nat} {xs : List Int} : downB m k xs k = true := down_iff.2 fun i j hi _ => by omega
/-- The smallest period across; down. -/
def perA (m k : Nat) (xs : List Int) : Nat := firstP (acrossB m k xs) (m - 1) 1
def perD (m k : Nat) (xs : List Int) : Nat := firstP (downB m k xs) (k - 1) 1
/-- The smallest one that divides the width; the height. -/
def divA (m k : Nat) (xs : List Int) : Nat := firstP (fun p => decide (m % p = 0) && acrossB m k xs p) (m - 1) 1
def divD (m k : Nat) (xs : List Int) : Nat := firstP (fun p => decide (k % p = 0) && downB m k xs p) (k - 1) 1
theorem perA_turn {m k : Nat} {xs : List Int} : perA k m (turnL m k xs) = perD m k xs := by unfold perA perD; rw [show acrossB k m (turnL m k xs) = downB m k xs from funext fun p => across_turn]
theorem divA_turn {m k : Nat} {xs : List Int} : divA k m (turnL m k xs) = divD m k xs := by unfold divA divD; simp only [across_turn]
theorem perA_bd {m k : Nat} {xs : List Int} (hm : 1 ≤ m) : 1 ≤ perA m k xs ∧ perA m k xs ≤ m ∧ acrossB m k xs (perA m k xs) = true := by
  refine ⟨firstP_ge _ _, ?_, firstP_ok _ _ ?_⟩
  · have := firstP_le (g := acrossB m k xs) (m - 1) 1
    unfold perA; omega
  · rw [show 1 + (m - 1) = m by omega]; exact across_all
theorem divA_bd {m k : Nat} {xs : List Int} (hm : 1 ≤ m) : 1 ≤ divA m k xs ∧ divA m k xs ≤ m ∧ m % divA m k xs = 0 ∧ acrossB m k xs (divA m k xs) = true := by
  have h1 := firstP_ok (g := fun p => decide (m % p = 0) && acrossB m k xs p) (m - 1) 1 (by rw [show 1 + (m - 1) = m by omega]; simp [across_all])
  simp only [Bool.and_eq_true, decide_eq_true_eq] at h1
  refine ⟨firstP_ge _ _, ?_, h1.1, h1.2⟩
  have := firstP_le (g := fun p => decide (m % p = 0) && acrossB m k xs p) (m - 1) 1
  unfold divA; omega
theorem divD_bd {m k : Nat} {xs : List Int} (hk : 1 ≤ k) : 1 ≤ divD m k xs ∧ divD m k xs ≤ k := by
  have := divA_bd (m := k) (k := m) (xs := turnL m k xs) hk
  rw [divA_turn] at this
  exact ⟨this.1, this.2.1⟩
end Go.Proofs.Ytpmhnklmhfadlaa
namespace Go.Proofs.Ytpmhnklmhfadlaa

def gA (m k : Nat) (xs : List Int) (p : Nat) : Bool := decide (m % p = 0) && acrossB m k xs p
def gD (m k : Nat) (xs : List Int) (p : Nat) : Bool := decide (k % p = 0) && downB m k xs p
theorem gA_last {m k : Nat} {xs : List Int} : gA m k xs m = true := by simp [gA, across_all]
theorem divA_is (m k : Nat) (xs : List Int) : firstP (gA m k xs) (m - 1) 1 = divA m k xs := rfl
theorem divD_is (m k : Nat) (xs : List Int) : firstP (gD m k xs) (k - 1) 1 = divD m k xs := rfl
theorem remN (a q : Nat) : Int.tmod (a : Int) (q : Int) = ((a % q : Nat) : Int) := by
  rw [Int.tmod_eq_emod_of_nonneg (by omega)]; omega
def motX (W H : Int) (xs : List Int) : List Int := if goodB W H xs = true then partL W.toNat xs 0 0 (divD W.toNat H.toNat xs) (divA W.toNat H.toNat xs) else []
theorem motX_len (W H : Int) (xs : List Int) : (motX W H xs).length ≤ 1048576 := by
  unfold motX
  split
  · rename_i h
    obtain ⟨m, k, rfl, rfl, m1, m8, k1, k8, _⟩ := good_nat h
    simp only [Int.toNat_natCast]
    rw [partL_len]
    have h1 := divA_bd (m := m) (k := k) (xs := xs) m1
    have h2 := divD_bd (m := m) (k := k) (xs := xs) k1
    have := Nat.mul_le_mul (show divD m k xs ≤ 8 by omega) (show divA m k xs ≤ 8 by omega)
    omega
  · simp
end Go.Proofs.Ytpmhnklmhfadlaa
