/- Plain mathematics of orbits: where a symmetry brings a knot, how long an orbit is, the color that most of its knots have. -/
import Derived.Test.YtihgobceahfpiaaSymMath
namespace Go.Proofs.Ytihgobceahfpiaa
open Go.RowKit

/-- Where the knot at a place of a chart after a quarter turn was. -/
def tsrc (m k p : Nat) : Nat := (k - 1 - p % k) * m + p / k
/-- Where it was ahead of a mirroring. -/
def msrc (m p : Nat) : Nat := p / m * m + (m - 1 - p % m)
/-- Where it was ahead of some quarter turns. -/
def usrc (m k : Nat) : Nat → Nat → Nat
  | 0, p => p
  | t + 1, p => usrc m k t (if t % 2 = 0 then tsrc m k p else tsrc k m p)
/-- Where it was ahead of a symmetry. -/
def org (m k s p : Nat) : Nat := if 4 ≤ s then msrc m (usrc m k (s % 4) p) else usrc m k (s % 4) p
theorem turn_get {m k p : Nat} {xs : List Int} (h : p < m * k) : (turnL m k xs).getD p 0 = xs.getD (tsrc m k p) 0 := by
  obtain ⟨h1, h2, h3⟩ := place_of h
  have := gridL_get (f := fun i j => elt m xs (k - 1 - j) i) h1 h2
  rw [← h3] at this
  exact this
theorem tsrc_lt {m k p : Nat} (h : p < m * k) : tsrc m k p < m * k := by
  obtain ⟨h1, h2, _⟩ := place_of h
  have := grid_lt (show k - 1 - p % k < k by omega) h1
  rw [Nat.mul_comm m k]
  exact this
theorem mirror_get {m k p : Nat} {xs : List Int} (h : p < m * k) : (mirrorL m k xs).getD p 0 = xs.getD (msrc m p) 0 := by
  rw [Nat.mul_comm] at h
  obtain ⟨h1, h2, h3⟩ := place_of h
  have := gridL_get (f := fun i j => elt m xs i (m - 1 - j)) h1 h2
  rw [← h3] at this
  exact this
theorem msrc_lt {m k p : Nat} (h : p < m * k) : msrc m p < m * k := by
  rw [Nat.mul_comm] at h
  obtain ⟨h1, h2, _⟩ := place_of h
  have := grid_lt h1 (show m - 1 - p % m < m by omega)
  rw [Nat.mul_comm m k]
  exact this
theorem turns_get (P : Pic) : ∀ (t p : Nat), p < P.m * P.k → (P.turns t).xs.getD p 0 = P.xs.getD (usrc P.m P.k t p) 0 ∧ usrc P.m P.k t p < P.m * P.k
  | 0, p, h => ⟨rfl, h⟩
  | t + 1, p, h => by
    have hs := P.turns_sides t
    have e : (P.turns (t + 1)).xs = turnL (P.turns t).m (P.turns t).k (P.turns t).xs := rfl
    rw [e, hs.1, hs.2]
    unfold usrc
    by_cases ht : t % 2 = 0
    · rw [if_pos ht, if_pos ht, if_pos ht, turn_get h]
      exact turns_get P t _ (tsrc_lt h)
    · rw [if_neg ht, if_neg ht, if_neg ht, turn_get (by rw [Nat.mul_comm]; exact h)]
      exact turns_get P t _ (by have := tsrc_lt (m := P.k) (k := P.m) (p := p) (by rw [Nat.mul_comm]; exact h); rw [Nat.mul_comm] at this; exact this)
theorem move_get {m k s p : Nat} {xs : List Int} (h : p < m * k) : ((⟨m, k, xs⟩ : Pic).move s).xs.getD p 0 = xs.getD (org m k s p) 0 := by
  unfold Pic.move org
  by_cases h4 : 4 ≤ s
  · rw [if_pos h4, if_pos h4]
    have := turns_get (⟨m, k, xs⟩ : Pic).mirror (s % 4) p h
    rw [this.1]
    exact mirror_get this.2
  · rw [if_neg h4, if_neg h4]
    exact (turns_get (⟨m, k, xs⟩ : Pic) (s % 4) p h).1
/-- Four times a symmetry that keeps the size is none: looked up. -/
def orgOk : Bool := (List.range 9).all fun m => (List.range 9).all fun k => (List.range 8).all fun s => !(keepsB m k s) || (List.range (m * k)).all fun p =>
  Nat.blt (org m k s p) (m * k) && Nat.beq (org m k s (org m k s (org m k s (org m k s p)))) p
theorem orgOk_true : orgOk = true := by kernel_rfl
/-- A function that makes rings of at most four places. -/
structure Ring4 (n : Nat) (g : Nat → Nat) : Prop where
  lt : ∀ p, p < n → g p < n
  four : ∀ p, p < n → g (g (g (g p))) = p
theorem org_ring {m k s : Nat} (hm : m ≤ 8) (hk : k ≤ 8) (hs : s ≤ 7) (hkeep : keepsB m k s = true) : Ring4 (m * k) (org m k s) := by
  have h := orgOk_true
  unfold orgOk at h
  rw [List.all_eq_true] at h
  have h := h m (List.mem_range.2 (by omega))
  rw [List.all_eq_true] at h
  have h := h k (List.mem_range.2 (by omega))
  rw [List.all_eq_true] at h
  have h := h s (List.mem_range.2 (by omega))
  rw [hkeep] at h
  simp only [Bool.not_true, Bool.false_or, List.all_eq_true, Bool.and_eq_true, List.mem_range] at h
  exact ⟨fun p hp => by have := (h p hp).1; rw [Nat.blt_eq] at this; exact this, fun p hp => Nat.eq_of_beq_eq_true (h p hp).2⟩

/-- A function made some times. -/
def iter (g : Nat → Nat) : Nat → Nat → Nat
  | 0, p => p
  | t + 1, p => g (iter g t p)
/-- How many places an orbit has. -/
def per (g : Nat → Nat) (p : Nat) : Nat := if g p = p then 1 else if g (g p) = p then 2 else 4
section
variable {n : Nat} {g : Nat → Nat}
theorem Ring4.inj (h : Ring4 n g) {a b : Nat} (ha : a < n) (hb : b < n) (e : g a = g b) : a = b := by
  rw [← h.four a ha, ← h.four b hb, e]
theorem Ring4.iter_lt (h : Ring4 n g) {p : Nat} (hp : p < n) : ∀ t, iter g t p < n
  | 0 => hp
  | t + 1 => h.lt _ (h.iter_lt hp t)
theorem per_le (g : Nat → Nat) (p : Nat) : 1 ≤ per g p ∧ per g p ≤ 4 := by unfold per; split <;> (try split) <;> omega
theorem Ring4.cases (h : Ring4 n g) {p : Nat} (hp : p < n) : (per g p = 1 ∧ g p = p) ∨ (per g p = 2 ∧ g p ≠ p ∧ g (g p) = p) ∨ (per g p = 4 ∧ g p ≠ p ∧ g (g p) ≠ p ∧ g (g (g p)) ≠ p) := by
  unfold per
  by_cases h1 : g p = p
  · exact .inl ⟨by rw [if_pos h1], h1⟩
  · by_cases h2 : g (g p) = p
    · exact .inr (.inl ⟨by rw [if_neg h1, if_pos h2], h1, h2⟩)
    · refine .inr (.inr ⟨by rw [if_neg h1, if_neg h2], h1, h2, fun e => h1 ?_⟩)
      have := h.four p hp
      rw [e] at this
      exact this
theorem Ring4.iter_per (h : Ring4 n g) {p : Nat} (hp : p < n) : iter g (per g p) p = p := by
  rcases h.cases hp with ⟨e, h1⟩ | ⟨e, _, h2⟩ | ⟨e, _⟩
  · rw [e]; exact h1
  · rw [e]; exact h2
  · rw [e]; exact h.four p hp
theorem Ring4.iter_ne (h : Ring4 n g) {p t : Nat} (hp : p < n) (h1 : 1 ≤ t) (ht : t < per g p) : iter g t p ≠ p := by
  rcases h.cases hp with ⟨e, _⟩ | ⟨e, a, _⟩ | ⟨e, a, b, c⟩
  · omega
  · obtain rfl : t = 1 := by omega
    exact a
  · have : t = 1 ∨ t = 2 ∨ t = 3 := by omega
    rcases this with rfl | rfl | rfl
    · exact a
    · exact b
    · exact c
/-- The next places of an orbit are new. -/
theorem Ring4.iter_new (h : Ring4 n g) {p : Nat} (hp : p < n) : ∀ t u, u < t → t < per g p → iter g t p ≠ iter g u p
  | 0, u, hu, _ => absurd hu (Nat.not_lt_zero _)
  | t + 1, 0, _, ht => h.iter_ne hp (by omega) ht
  | t + 1, u + 1, hu, ht => fun e => h.iter_new hp t u (by omega) (by omega) (h.inj (h.iter_lt hp t) (h.iter_lt hp u) e)
/-- How many of the first t places of an orbit have a color. -/
def cntE (xs : List Int) (c : Int) (q : Nat) : Nat := if xs.getD q 0 = c then 1 else 0
theorem cntE_le (xs : List Int) (c : Int) (q : Nat) : cntE xs c q ≤ 1 := by unfold cntE; split <;> omega
def cntTo (g : Nat → Nat) (xs : List Int) (p : Nat) : Nat → Int → Nat
  | 0, _ => 0
  | t + 1, c => cntTo g xs p t c + cntE xs c (iter g t p)
theorem cntTo_le (g : Nat → Nat) (xs : List Int) (p : Nat) (c : Int) : ∀ t, cntTo g xs p t c ≤ t
  | 0 => Nat.le_refl _
  | t + 1 => by have := cntTo_le g xs p c t; have := cntE_le xs c (iter g t p); unfold cntTo; omega
theorem cnt1 (g : Nat → Nat) (xs : List Int) (p : Nat) (c : Int) : cntTo g xs p 1 c = cntE xs c p := Nat.zero_add _
theorem cnt2 (g : Nat → Nat) (xs : List Int) (p : Nat) (c : Int) : cntTo g xs p 2 c = cntE xs c p + cntE xs c (g p) := by
  show 0 + cntE xs c p + cntE xs c (g p) = _
  rw [Nat.zero_add]
theorem cnt4 (g : Nat → Nat) (xs : List Int) (p : Nat) (c : Int) : cntTo g xs p 4 c = cntE xs c p + cntE xs c (g p) + cntE xs c (g (g p)) + cntE xs c (g (g (g p))) := by
  show 0 + cntE xs c p + cntE xs c (g p) + cntE xs c (g (g p)) + cntE xs c (g (g (g p))) = _
  rw [Nat.zero_add]
def cnt (g : Nat → Nat) (xs : List Int) (p : Nat) (c : Int) : Nat := cntTo g xs p (per g p) c
theorem cnt_le (g : Nat → Nat) (xs : List Int) (p : Nat) (c : Int) : cnt g xs p c ≤ 4 := Nat.le_trans (cntTo_le _ _ _ _ _) (per_le g p).2
/-- The first number below j at which a count is greatest. -/
def bestTo (f : Nat → Nat) : Nat → Nat
  | 0 => 0
  | j + 1 => if f (bestTo f j) < f j then j else bestTo f j
theorem bestTo_le (f : Nat → Nat) : ∀ j, bestTo f j ≤ j
  | 0 => Nat.le_refl _
  | j + 1 => by have := bestTo_le f j; unfold bestTo; split <;> omega
theorem bestTo_lt (f : Nat → Nat) (j : Nat) : bestTo f (j + 1) < j + 1 := by
  have := bestTo_le f j
  unfold bestTo
  split
  · omega
  · rcases Nat.lt_or_ge (bestTo f j) (j + 1) with h | h <;> omega
/-- The color that most knots of an orbit have. -/
def bestC (g : Nat → Nat) (xs : List Int) (p : Nat) : Nat := bestTo (fun j => cnt g xs p (j : Int)) 6
theorem bestC_lt (g : Nat → Nat) (xs : List Int) (p : Nat) : bestC g xs p < 6 := bestTo_lt _ 5
/-- The completed chart. -/
def compL (g : Nat → Nat) (xs : List Int) (n : Nat) : List Int := (List.range n).map fun p => ((bestC g xs p : Nat) : Int)
theorem compL_len (g : Nat → Nat) (xs : List Int) (n : Nat) : (compL g xs n).length = n := by simp [compL]
theorem compL_get {g : Nat → Nat} {xs : List Int} {n p : Nat} (h : p < n) : (compL g xs n).getD p 0 = ((bestC g xs p : Nat) : Int) := by
  rw [getD_at (by rw [compL_len]; exact h)]; simp [compL]

/-! the same from the other side: the inverse -/
theorem Ring4.inv {f : Nat → Nat} (h : Ring4 n g) (hf : ∀ p, p < n → f p = g (g (g p))) : Ring4 n f := by
  have lt : ∀ p, p < n → f p < n := fun p hp => by rw [hf p hp]; exact h.lt _ (h.lt _ (h.lt _ hp))
  have two : ∀ p, p < n → f (f p) = g (g p) := fun p hp => by
    rw [hf _ (lt p hp), hf p hp, h.four _ (h.lt _ (h.lt _ hp))]
  refine ⟨lt, fun p hp => ?_⟩
  rw [two _ (lt _ (lt _ hp)), two _ hp, h.four p hp]
theorem Ring4.inv2 {f : Nat → Nat} (h : Ring4 n g) (hf : ∀ p, p < n → f p = g (g (g p))) {p : Nat} (hp : p < n) : f (f p) = g (g p) ∧ f (f (f p)) = g p := by
  have lt : ∀ p, p < n → f p < n := fun p hp => by rw [hf p hp]; exact h.lt _ (h.lt _ (h.lt _ hp))
  have two : ∀ p, p < n → f (f p) = g (g p) := fun p hp => by
    rw [hf _ (lt p hp), hf p hp, h.four _ (h.lt _ (h.lt _ hp))]
  refine ⟨two p hp, ?_⟩
  rw [two _ (lt p hp), hf p hp, h.four _ (h.lt _ hp)]
theorem Ring4.cnt_inv {f : Nat → Nat} (h : Ring4 n g) (hf : ∀ p, p < n → f p = g (g (g p))) {p : Nat} (hp : p < n) (xs : List Int) (c : Int) : cnt f xs p c = cnt g xs p c := by
  obtain ⟨e2, e3⟩ := h.inv2 hf hp
  have e1 := hf p hp
  have hpf : per f p = per g p := by
    unfold per
    rw [e2, e1]
    by_cases a : g p = p
    · rw [if_pos a, if_pos (by rw [a, a, a])]
    · rw [if_neg a]
      by_cases b : g (g p) = p
      · rw [if_neg (by rw [b]; exact a)]
      · rw [if_neg (fun e => a (by have := h.four p hp; rw [e] at this; exact this))]
  unfold cnt
  rw [hpf]
  rcases h.cases hp with ⟨e, _⟩ | ⟨e, _, b⟩ | ⟨e, _⟩
  · rw [e, cnt1, cnt1]
  · rw [e, cnt2, cnt2, e1, b]
  · rw [e, cnt4, cnt4, e3, e2, e1]
    omega
theorem Ring4.cnt_step (h : Ring4 n g) {p : Nat} (hp : p < n) (xs : List Int) (c : Int) : cnt g xs (g p) c = cnt g xs p c := by
  have hpf : per g (g p) = per g p := by
    unfold per
    by_cases a : g p = p
    · rw [if_pos (by rw [a]; exact a), if_pos a]
    · rw [if_neg (fun e => a (h.inj (h.lt _ hp) hp e)), if_neg a]
      by_cases b : g (g p) = p
      · rw [if_pos (by rw [b]), if_pos b]
      · rw [if_neg (fun e => b (h.inj (h.lt _ (h.lt _ hp)) hp e)), if_neg b]
  unfold cnt
  rw [hpf]
  rcases h.cases hp with ⟨e, a⟩ | ⟨e, _, b⟩ | ⟨e, _⟩
  · rw [e, a]
  · rw [e, cnt2, cnt2, b]
    omega
  · rw [e, cnt4, cnt4, h.four p hp]
    omega
theorem Ring4.best_inv {f : Nat → Nat} (h : Ring4 n g) (hf : ∀ p, p < n → f p = g (g (g p))) {p : Nat} (hp : p < n) (xs : List Int) : bestC f xs p = bestC g xs p := by
  unfold bestC
  congr 1
  funext j
  exact h.cnt_inv hf hp xs j
theorem Ring4.best_iter (h : Ring4 n g) {p : Nat} (hp : p < n) (xs : List Int) : ∀ t, bestC g xs (iter g t p) = bestC g xs p
  | 0 => rfl
  | t + 1 => by
    rw [← h.best_iter hp xs t]
    show bestC g xs (g (iter g t p)) = _
    unfold bestC
    congr 1
    funext j
    exact h.cnt_step (h.iter_lt hp t) xs j
end
end Go.Proofs.Ytihgobceahfpiaa
