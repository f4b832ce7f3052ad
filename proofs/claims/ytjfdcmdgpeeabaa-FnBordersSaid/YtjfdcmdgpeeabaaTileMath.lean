/- Plain mathematics of charts that are made of copies of a motif, of periods and of their smallest motif. -/
import Derived.Test.YtjfdcmdgpeeabaaPutMath
import Derived.Test.YtjfdcmdgpeeabaaPartMath
namespace Go.Proofs.Ytjfdcmdgpeeabaa
open Go.RowKit

/-- A chart of a times d copies with m columns and k rows: what stands in a copy is told by f. -/
def tileL (m k a d : Nat) (f : Nat → Nat → Nat → Nat → Int) : List Int := gridL (d * k) (a * m) fun i j => f (i / k) (j / m) (i % k) (j % m)
/-- The copies ahead of copy k0 in row i0 of copies stand. -/
def TileTo (m k a d : Nat) (f : Nat → Nat → Nat → Nat → Int) (i0 k0 : Nat) (zs : List Int) : Prop :=
  zs.length = (a * m) * (d * k) ∧ ∀ i j, i < d * k → j < a * m → (i / k < i0 ∨ (i / k = i0 ∧ j / m < k0)) → zs.getD (i * (a * m) + j) 0 = f (i / k) (j / m) (i % k) (j % m)
section
variable {m k a d i0 k0 : Nat} {f : Nat → Nat → Nat → Nat → Int} {zs ys : List Int}
theorem tileL_len : (tileL m k a d f).length = (d * k) * (a * m) := gridL_len _ _ _
theorem tile_start (h : zs.length = (a * m) * (d * k)) : TileTo m k a d f 0 0 zs := ⟨h, fun i j _ _ hh => by
  rcases hh with hh | ⟨_, hh⟩
  · exact absurd hh (Nat.not_lt_zero _)
  · exact absurd hh (Nat.not_lt_zero _)⟩
theorem tile_row (h : TileTo m k a d f i0 a zs) : TileTo m k a d f (i0 + 1) 0 zs := by
  refine ⟨h.1, fun i j hi hj hh => h.2 i j hi hj ?_⟩
  have : j / m < a := Nat.div_lt_of_lt_mul (by rw [Nat.mul_comm]; exact hj)
  generalize i / k = I at *
  generalize j / m = J at *
  omega
theorem tile_end (h : TileTo m k a d f d 0 zs) : zs = tileL m k a d f := by
  refine gridL_ext (by rw [h.1, Nat.mul_comm]) fun i j hi hj => h.2 i j hi hj ?_
  exact .inl (Nat.div_lt_of_lt_mul (by rw [Nat.mul_comm]; exact hi))
theorem div_block {i k i0 : Nat} (h1 : i0 * k ≤ i) (h2 : i < i0 * k + k) : i / k = i0 ∧ i % k = i - i0 * k := by
  have e : i / k = i0 := by
    apply Nat.div_eq_of_lt_le
    · exact h1
    · rw [Nat.succ_mul]; exact h2
  refine ⟨e, ?_⟩
  have := Nat.div_add_mod i k
  rw [e, Nat.mul_comm] at this
  omega
theorem block_of {i k i0 : Nat} (hk : 1 ≤ k) (e : i / k = i0) : i0 * k ≤ i ∧ i < i0 * k + k := by
  have h1 := Nat.div_add_mod i k
  have h2 := Nat.mod_lt i hk
  rw [e, Nat.mul_comm] at h1
  omega
theorem tile_one (hm : 1 ≤ m) (hk : 1 ≤ k) (h : TileTo m k a d f i0 k0 zs) (hf : ∀ i j, i < k → j < m → elt m ys i j = f i0 k0 i j) :
    TileTo m k a d f i0 (k0 + 1) (putL (a * m) (d * k) m k zs ys (i0 * k) (k0 * m)) := by
  refine ⟨by rw [putL_len, Nat.mul_comm], fun i j hi' hj' hh => ?_⟩
  unfold putL
  rw [gridL_get hi' hj']
  unfold putE
  by_cases e : i / k = i0 ∧ j / m = k0
  · obtain ⟨e1, e2⟩ := e
    obtain ⟨b1, b2⟩ := block_of hk e1
    obtain ⟨b3, b4⟩ := block_of hm e2
    rw [if_pos (by omega), hf _ _ (by omega) (by omega), e1, e2, (div_block b1 b2).2, (div_block b3 b4).2]
  · have hne : ¬ (k0 * m ≤ j ∧ j < k0 * m + m ∧ i0 * k ≤ i ∧ (i < i0 * k + k ∨ (i = i0 * k + k ∧ j < k0 * m + 0))) := fun hh => e ⟨(div_block hh.2.2.1 (by omega)).1, (div_block hh.1 hh.2.1).1⟩
    rw [if_neg hne]
    refine h.2 i j hi' hj' ?_
    generalize i / k = I at *
    generalize j / m = J at *
    omega
end
/-- A motif's copies. -/
def repF (m : Nat) (xs : List Int) (_ _ i j : Nat) : Int := elt m xs i j
def repL (m k : Nat) (xs : List Int) (a d : Nat) : List Int := tileL m k a d (repF m xs)
/-- .. of which every second one is mirrored. -/
def mirF (m : Nat) (xs : List Int) (_ c i j : Nat) : Int := if c % 2 = 1 then elt m xs i (m - 1 - j) else elt m xs i j
def mirRepL (m k : Nat) (xs : List Int) (a : Nat) : List Int := tileL m k a 1 (mirF m xs)
theorem mirror_elt {m k i j : Nat} {xs : List Int} (hi : i < k) (hj : j < m) : elt m (mirrorL m k xs) i j = elt m xs i (m - 1 - j) := gridL_get (f := fun i j => elt m xs i (m - 1 - j)) hi hj
/-- Two copies, the second one moved down by half. -/
def dropL (m k : Nat) (xs : List Int) : List Int := gridL k (2 * m) fun i j => if j < m then elt m xs i j else elt m xs ((i + k / 2) % k) (j - m)
theorem part_elt {m r c h k i j : Nat} {xs : List Int} (hi : i < h) (hj : j < k) : elt k (partL m xs r c h k) i j = elt m xs (r + i) (c + j) := by
  have : partL m xs r c h k = gridL h k fun i j => elt m xs (r + i) (c + j) := rfl
  rw [this]
  exact gridL_get hi hj
theorem drop_put {m h : Nat} {xs zs : List Int} :
    putL (2 * m) (2 * h) m h (putL (2 * m) (2 * h) m h (putL (2 * m) (2 * h) m (2 * h) zs xs 0 0) (partL m xs h 0 h m) 0 m) (partL m xs 0 0 h m) h m = dropL m (2 * h) xs := by
  unfold dropL
  rw [show 2 * h / 2 = h by omega]
  refine gridL_congr fun i j hi hj => ?_
  have hp : ∀ (us vs : List Int) (pk r q : Nat), elt (2 * m) (putL (2 * m) (2 * h) m pk us vs r q) i j = putE (2 * m) m us vs r q pk 0 i j := fun us vs pk r q => gridL_get hi hj
  unfold putE
  by_cases h1 : j < m
  · rw [if_neg (by omega), if_pos h1, hp]
    unfold putE
    rw [if_neg (by omega), hp]
    unfold putE
    rw [if_pos (by omega)]
    rfl
  · by_cases h2 : i < h
    · rw [if_neg (by omega), if_neg h1, hp]
      unfold putE
      rw [if_pos (by omega), part_elt (by omega) (by omega), Nat.mod_eq_of_lt (by omega)]
      congr 1 <;> omega
    · rw [if_pos (by omega), if_neg h1, part_elt (by omega) (by omega)]
      have : (i + h) % (2 * h) = i - h := by
        rw [show i + h = (i - h) + 2 * h by omega, Nat.add_mod_right, Nat.mod_eq_of_lt (by omega)]
      rw [this]
      congr 1 <;> omega
/-- A chart has a period across. -/
def acrossB (m k : Nat) (xs : List Int) (p : Nat) : Bool := (List.range k).all fun i => (List.range (m - p)).all fun j => decide (elt m xs i j = elt m xs i (j + p))
def downB (m k : Nat) (xs : List Int) (p : Nat) : Bool := (List.range (k - p)).all fun i => (List.range m).all fun j => decide (elt m xs i j = elt m xs (i + p) j)
theorem across_iff {m k p : Nat} {xs : List Int} : acrossB m k xs p = true ↔ ∀ i j, i < k → j + p < m → elt m xs i j = elt m xs i (j + p) := by
  simp only [acrossB, List.all_eq_true, List.mem_range, decide_eq_true_eq]
  exact ⟨fun h i j hi hj => h i hi j (by omega), fun h i hi j hj => h i j hi (by omega)⟩
theorem down_iff {m k p : Nat} {xs : List Int} : downB m k xs p = true ↔ ∀ i j, i + p < k → j < m → elt m xs i j = elt m xs (i + p) j := by
  simp only [downB, List.all_eq_true, List.mem_range, decide_eq_true_eq]
  exact ⟨fun h i j hi hj => h i (by omega) j hj, fun h i hi j hj => h i j (by omega) hj⟩
theorem turn_elt {m k i j : Nat} {xs : List Int} (hi : i < m) (hj : j < k) : elt k (turnL m k xs) i j = elt m xs (k - 1 - j) i := gridL_get hi hj
/-- Down in a chart is across in the turned one. -/
theorem across_turn {m k p : Nat} {xs : List Int} : acrossB k m (turnL m k xs) p = downB m k xs p := by
  rw [Bool.eq_iff_iff, across_iff, down_iff]
  constructor
  · intro h i j hi hj
    have := h j (k - 1 - (i + p)) hj (by omega)
    rw [turn_elt hj (by omega), turn_elt hj (by omega)] at this
    rw [show k - 1 - (k - 1 - (i + p)) = i + p by omega, show k - 1 - (k - 1 - (i + p) + p) = i by omega] at this
    exact this.symm
  · intro h i j hi hj
    rw [turn_elt hi (by omega), turn_elt hi (by omega)]
    have := h (k - 1 - (j + p)) i (by omega) hi
    rw [show k - 1 - (j + p) + p = k - 1 - j by omega] at this
    exact this.symm
/-- The first number from p on that passes, within n tries. -/
def firstP (g : Nat → Bool) : Nat → Nat → Nat
  | 0, p => p
  | n + 1, p => if g p = true then p else firstP g n (p + 1)
theorem firstP_yes {g : Nat → Bool} {n p : Nat} (h : g p = true) : firstP g n p = p := by
  cases n with
  | zero => rfl
  | succ n => rw [firstP, if_pos h]
theorem firstP_no {g : Nat → Bool} {n p : Nat} (h : g p = false) : firstP g (n + 1) p = firstP g n (p + 1) := by rw [firstP, if_neg (by rw [h]; decide)]
theorem firstP_le {g : Nat → Bool} : ∀ (n p : Nat), firstP g n p ≤ p + n
  | 0, p => Nat.le_refl _
  | n + 1, p => by
    rw [firstP]
    split
    · omega
    · have := firstP_le (g := g) n (p + 1); omega
theorem firstP_ge {g : Nat → Bool} : ∀ (n p : Nat), p ≤ firstP g n p
  | 0, p => Nat.le_refl _
  | n + 1, p => by
    rw [firstP]
    split
    · exact Nat.le_refl _
    · have := firstP_ge (g := g) n (p + 1); omega
theorem firstP_ok {g : Nat → Bool} : ∀ (n p : Nat), g (p + n) = true → g (firstP g n p) = true
  | 0, p, h => h
  | n + 1, p, h => by
    rw [firstP]
    split
    · assumption
    · exact firstP_ok n (p + 1) (by rw [show p + 1 + n = p + (n + 1) by omega]; exact h)
/-- What stands ahead of the first one does not pass. -/
theorem firstP_ahead {g : Nat → Bool} : ∀ (n p q : Nat), p ≤ q → q < firstP g n p → g q = false
  | 0, p, q, h1, h2 => by simp [firstP] at h2; omega
  | n + 1, p, q, h1, h2 => by
    rw [firstP] at h2
    split at h2
    · omega
    · rename_i hg
      rcases Nat.eq_or_lt_of_le h1 with rfl | h1
      · simpa using hg
      · exact firstP_ahead n (p + 1) q h1 h2
theorem firstP_eq {g : Nat → Bool} {n p q : Nat} (h1 : p ≤ q) (h2 : q ≤ p + n) (hq : g q = true) (h : ∀ r, p ≤ r → r < q → g r = false) : firstP g n p = q := by
  have hok : g (firstP g n p) = true ∨ firstP g n p = p + n := by
    clear hq h h1 h2
    induction n generalizing p with
    | zero => exact .inr rfl
    | succ n ih =>
      rw [firstP]
      split
      · exact .inl (by assumption)
      · rcases ih (p := p + 1) with h | h
        · exact .inl h
        · exact .inr (by omega)
  rcases Nat.lt_trichotomy (firstP g n p) q with hl | hl | hl
  · have h5 := h _ (firstP_ge n p) hl
    rcases hok with h6 | h6
    · rw [h5] at h6; cases h6
    · omega
  · exact hl
  · have := firstP_ahead n p q h1 hl
    rw [hq] at this
    cases this
theorem across_all {m k : Nat} {xs : List Int} : acrossB m k xs m = true := across_iff.2 fun i j _ hj => by omega
theorem down_all {m k : Nat} {xs : List Int} : downB m k xs k = true := down_iff.2 fun i j hi _ => by omega
/-- The smallest period across; down. -/
def perA (m k : Nat) (xs : List Int) : Nat := firstP (acrossB m k xs) (m - 1) 1
def perD (m k : Nat) (xs : List Int) : Nat := firstP (downB m k xs) (k - 1) 1
/-- The smallest one that divides the width; the height. -/
def divA (m k : Nat) (xs : List Int) : Nat := firstP (fun p => decide (m % p = 0) && acrossB m k xs p) (m - 1) 1
def divD (m k : Nat) (xs : List Int) : Nat := firstP (fun p => decide (k % p = 0) && downB m k xs p) (k - 1) 1
theorem perA_turn {m k : Nat} {xs : List Int} : perA k m (turnL m k xs) = perD m k xs := by unfold perA perD; rw [show acrossB k m (turnL m k xs) = downB m k xs from funext fun p => across_turn]
theorem divA_turn {m k : Nat} {xs : List Int} : divA k m (turnL m k xs) = divD m k xs := by unfold divA divD; simp only [across_turn]
theorem perA_bd {m k : Nat} {xs : List Int} (hm : 1 ≤ m) : 1 ≤ perA m k xs ∧ perA m k xs ≤ m ∧ acrossB m k xs (perA m k xs) = true := by
  refine ⟨firstP_ge _ _, ?_, firstP_ok _ _ ?_⟩
  · have := firstP_le (g := acrossB m k xs) (m - 1) 1
    unfold perA; omega
  · rw [show 1 + (m - 1) = m by omega]; exact across_all
theorem divA_bd {m k : Nat} {xs : List Int} (hm : 1 ≤ m) : 1 ≤ divA m k xs ∧ divA m k xs ≤ m ∧ m % divA m k xs = 0 ∧ acrossB m k xs (divA m k xs) = true := by
  have h1 := firstP_ok (g := fun p => decide (m % p = 0) && acrossB m k xs p) (m - 1) 1 (by rw [show 1 + (m - 1) = m by omega]; simp [across_all])
  simp only [Bool.and_eq_true, decide_eq_true_eq] at h1
  refine ⟨firstP_ge _ _, ?_, h1.1, h1.2⟩
  have := firstP_le (g := fun p => decide (m % p = 0) && acrossB m k xs p) (m - 1) 1
  unfold divA; omega
theorem divD_bd {m k : Nat} {xs : List Int} (hk : 1 ≤ k) : 1 ≤ divD m k xs ∧ divD m k xs ≤ k := by
  have := divA_bd (m := k) (k := m) (xs := turnL m k xs) hk
  rw [divA_turn] at this
  exact ⟨this.1, this.2.1⟩
end Go.Proofs.Ytjfdcmdgpeeabaa
