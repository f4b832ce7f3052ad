/- Recipes and baths as data. No condition. -/
import Derived.Test.YtjlidgeeehlkcaaDyePartData
import Derived.Test.YtjlidgeeehlkcaaBase
namespace Go.Proofs.Ytjlidgeeehlkcaa
open Go.RowKit

def partB (p : DyePartR) : Bool := wordB p.f0 && inB p.f1 1 1000
/-- Up to a place all are valid and in order. -/
def RecTo (xs : List DyePartR) (k : Nat) : Prop := (∀ i a, i < k → xs[i]? = some a → partB a = true) ∧ ∀ i a b, i + 1 < k → xs[i]? = some a → xs[i + 1]? = some b → Op.bytesLess a.f0.toList b.f0.toList = true
def Rec (xs : List DyePartR) : Prop := (1 ≤ xs.length ∧ xs.length ≤ 6) ∧ RecTo xs xs.length
noncomputable def recB (xs : List DyePartR) : Bool := @decide (Rec xs) (Classical.propDecidable _)
theorem recB_yes {xs : List DyePartR} (h : Rec xs) : recB xs = true := @decide_eq_true _ (Classical.propDecidable _) h
theorem recB_no {xs : List DyePartR} (h : ¬ Rec xs) : recB xs = false := @decide_eq_false _ (Classical.propDecidable _) h
theorem recB_of {xs : List DyePartR} (h : recB xs = true) : Rec xs := @of_decide_eq_true _ (Classical.propDecidable _) h
theorem recTo_zero (xs : List DyePartR) : RecTo xs 0 := ⟨fun i a h => by omega, fun i a b h => by omega⟩
theorem recTo_step {xs : List DyePartR} {k : Nat} {a : DyePartR} (h : RecTo xs k) (ha : xs[k]? = some a) (hs : partB a = true) (hp : ∀ m p, m + 1 = k → xs[m]? = some p → Op.bytesLess p.f0.toList a.f0.toList = true) : RecTo xs (k + 1) := by
  refine ⟨fun i c hi hc => ?_, fun i c d hi hc hd => ?_⟩
  · rcases Nat.lt_or_ge i k with hlt | hge
    · exact h.1 i c hlt hc
    · obtain rfl : i = k := by omega
      rw [ha] at hc
      obtain rfl : a = c := Option.some.inj hc
      exact hs
  · rcases Nat.lt_or_ge (i + 1) k with hlt | hge
    · exact h.2 i c d hlt hc hd
    · obtain rfl : i + 1 = k := by omega
      rw [ha] at hd
      obtain rfl : a = d := Option.some.inj hd
      exact hp i c rfl hc
theorem rec_bad1 {xs : List DyePartR} {k : Nat} {a : DyePartR} (ha : xs[k]? = some a) (hs : partB a = false) : recB xs = false :=
  recB_no fun h => by rw [h.2.1 k a (List.getElem?_eq_some_iff.1 ha).1 ha] at hs; cases hs
theorem rec_bad2 {xs : List DyePartR} {m k : Nat} {a p : DyePartR} (ha : xs[k]? = some a) (hp : xs[m]? = some p) (hm : m + 1 = k) (h : Op.bytesLess p.f0.toList a.f0.toList = false) : recB xs = false :=
  recB_no fun hc => by subst hm; rw [hc.2.2 m p a (List.getElem?_eq_some_iff.1 ha).1 hp ha] at h; cases h
theorem part_at {xs : List DyePartR} (h : recB xs = true) {k : Nat} {a : DyePartR} (ha : xs[k]? = some a) : wordB a.f0 = true ∧ 1 ≤ a.f1 ∧ a.f1 ≤ 1000 := by
  have h1 := (recB_of h).2.1 k a (List.getElem?_eq_some_iff.1 ha).1 ha
  unfold partB at h1
  rw [Bool.and_eq_true] at h1
  exact ⟨h1.1, inB_yes h1.2⟩
theorem rec_len {xs : List DyePartR} (h : recB xs = true) : 1 ≤ xs.length ∧ xs.length ≤ 6 := (recB_of h).1

/-- A number of grams. -/
abbrev gramB (x : Int) : Bool := inB x 0 50000
/-- All numbers up to a place are ones of grams. -/
def GramsTo (ys : List Int) (k : Nat) : Prop := ∀ i y, i < k → ys[i]? = some y → gramB y = true
def gramsB (ys : List Int) : Bool := ys.all gramB
theorem gramsTo_zero (ys : List Int) : GramsTo ys 0 := fun i y h => by omega
theorem gramsTo_step {ys : List Int} {k : Nat} {y : Int} (h : GramsTo ys k) (hy : ys[k]? = some y) (hg : gramB y = true) : GramsTo ys (k + 1) := by
  intro i z hi hz
  rcases Nat.lt_or_ge i k with hlt | hge
  · exact h i z hlt hz
  · obtain rfl : i = k := by omega
    rw [hy] at hz
    obtain rfl : y = z := Option.some.inj hz
    exact hg
theorem gramsB_yes {ys : List Int} (h : GramsTo ys ys.length) : gramsB ys = true := by
  unfold gramsB
  rw [List.all_eq_true]
  intro x hx
  obtain ⟨i, hi, rfl⟩ := List.getElem_of_mem hx
  exact h i _ hi (List.getElem?_eq_getElem hi)
theorem gramsB_no {ys : List Int} {k : Nat} {y : Int} (hy : ys[k]? = some y) (hg : gramB y = false) : gramsB ys = false := by
  unfold gramsB
  rw [List.all_eq_false]
  exact ⟨y, List.mem_of_getElem? hy, by rw [hg]; decide⟩
theorem grams_at {ys : List Int} (h : gramsB ys = true) {k : Nat} {y : Int} (hy : ys[k]? = some y) : 0 ≤ y ∧ y ≤ 50000 := by
  unfold gramsB at h
  rw [List.all_eq_true] at h
  exact inB_yes (h y (List.mem_of_getElem? hy))
/-- A bath for a recipe. -/
noncomputable def bathB (xs : List DyePartR) (L T Y : Int) (ys : List Int) : Bool := recB xs && decide (ys.length = xs.length) && gramsB ys && inB L 1 500 && inB T 0 100 && gramB Y
theorem bath_of {xs : List DyePartR} {L T Y : Int} {ys : List Int} (h : bathB xs L T Y ys = true) : recB xs = true ∧ ys.length = xs.length ∧ gramsB ys = true ∧ (1 ≤ L ∧ L ≤ 500) ∧ (0 ≤ T ∧ T ≤ 100) ∧ (0 ≤ Y ∧ Y ≤ 50000) := by
  simp only [bathB, Bool.and_eq_true, decide_eq_true_eq] at h
  obtain ⟨⟨⟨⟨⟨h1, h2⟩, h3⟩, h4⟩, h5⟩, h6⟩ := h
  exact ⟨h1, h2, h3, inB_yes h4, inB_yes h5, inB_yes h6⟩

/-- How much of each stuff. -/
def needI (p : DyePartR) (y : Int) : Int := (p.f1 * y + 999) / 1000
def needs (xs : List DyePartR) (y : Int) : List Int := xs.map (needI · y)
theorem needs_len (xs : List DyePartR) (y : Int) : (needs xs y).length = xs.length := by simp [needs]
theorem needs_at {xs : List DyePartR} {y : Int} {k : Nat} {a : DyePartR} (h : xs[k]? = some a) : (needs xs y)[k]? = some (needI a y) := by simp [needs, h]
theorem mul_bd {a y A Y : Int} (h0 : 0 ≤ a) (h1 : a ≤ A) (h2 : 0 ≤ y) (h3 : y ≤ Y) : 0 ≤ a * y ∧ a * y ≤ A * Y := ⟨Int.mul_nonneg h0 h2, Int.le_trans (Int.mul_le_mul_of_nonneg_right h1 h2) (Int.mul_le_mul_of_nonneg_left h3 (by omega))⟩
theorem needI_bd {p : DyePartR} {y : Int} (h0 : 1 ≤ p.f1) (h1 : p.f1 ≤ 1000) (h2 : 0 ≤ y) (h3 : y ≤ 50000) : 0 ≤ needI p y ∧ needI p y ≤ 50000 := by
  have := mul_bd (show (0 : Int) ≤ p.f1 by omega) h1 h2 h3
  unfold needI
  omega
theorem needI_iff {p : DyePartR} {y s : Int} (h0 : 1 ≤ p.f1) : needI p y ≤ s ↔ y ≤ s * 1000 / p.f1 := by
  rw [Int.le_ediv_iff_mul_le (by omega), Int.mul_comm y]
  unfold needI
  omega
/-- There is enough of each stuff, up to a place. -/
def EnoughTo (xs : List DyePartR) (ys : List Int) (y : Int) (k : Nat) : Prop := ∀ i p s, i < k → xs[i]? = some p → ys[i]? = some s → needI p y ≤ s
noncomputable def enoughB (xs : List DyePartR) (ys : List Int) (y : Int) : Bool := @decide (EnoughTo xs ys y xs.length) (Classical.propDecidable _)
theorem enough_zero (xs : List DyePartR) (ys : List Int) (y : Int) : EnoughTo xs ys y 0 := fun i p s h => by omega
theorem enough_step {xs : List DyePartR} {ys : List Int} {y : Int} {k : Nat} {p : DyePartR} {s : Int} (h : EnoughTo xs ys y k) (hp : xs[k]? = some p) (hs : ys[k]? = some s) (hn : needI p y ≤ s) : EnoughTo xs ys y (k + 1) := by
  intro i q t hi hq ht
  rcases Nat.lt_or_ge i k with hlt | hge
  · exact h i q t hlt hq ht
  · obtain rfl : i = k := by omega
    rw [hp] at hq
    rw [hs] at ht
    cases hq
    cases ht
    exact hn
theorem enoughB_yes {xs : List DyePartR} {ys : List Int} {y : Int} (h : EnoughTo xs ys y xs.length) : enoughB xs ys y = true := @decide_eq_true _ (Classical.propDecidable _) h
theorem enoughB_no {xs : List DyePartR} {ys : List Int} {y : Int} {k : Nat} {p : DyePartR} {s : Int} (hp : xs[k]? = some p) (hs : ys[k]? = some s) (hn : s < needI p y) : enoughB xs ys y = false :=
  @decide_eq_false _ (Classical.propDecidable _) fun h => by have := h k p s (List.getElem?_eq_some_iff.1 hp).1 hp hs; omega
theorem enoughB_of {xs : List DyePartR} {ys : List Int} {y : Int} (h : enoughB xs ys y = true) : EnoughTo xs ys y xs.length := @of_decide_eq_true _ (Classical.propDecidable _) h
/-- Enough water for yarn. -/
def waterB (L y : Int) : Bool := decide (20 * ((y + 999) / 1000) ≤ L)
noncomputable def readyB (xs : List DyePartR) (L T : Int) (ys : List Int) (y : Int) : Bool := enoughB xs ys y && waterB L y && inB T 60 95
theorem water_iff {L y : Int} : 20 * ((y + 999) / 1000) ≤ L ↔ y ≤ L / 20 * 1000 := by omega

/-- The most yarn, up to a place. -/
def mostTo : List DyePartR → List Int → Int → Int
  | p :: ps, s :: ss, m => mostTo ps ss (min m (s * 1000 / p.f1))
  | _, _, m => m
theorem mostTo_step (xs : List DyePartR) : ∀ (ys : List Int) (m : Int) (k : Nat) (p : DyePartR) (s : Int), xs[k]? = some p → ys[k]? = some s → mostTo (xs.take (k + 1)) (ys.take (k + 1)) m = min (mostTo (xs.take k) (ys.take k) m) (s * 1000 / p.f1) := by
  induction xs with
  | nil => intro ys m k p s h; simp at h
  | cons x xs ih =>
    intro ys m k p s hp hs
    cases ys with
    | nil => simp at hs
    | cons z ys =>
      cases k with
      | zero =>
        simp at hp hs
        subst hp
        subst hs
        simp [mostTo]
      | succ k =>
        simp only [List.getElem?_cons_succ] at hp hs
        rw [List.take_succ_cons, List.take_succ_cons, List.take_succ_cons, List.take_succ_cons, mostTo, mostTo, ih ys _ k p s hp hs]
theorem mostTo_zero (xs : List DyePartR) (ys : List Int) (m : Int) : mostTo (xs.take 0) (ys.take 0) m = m := by simp [mostTo]
theorem mostTo_iff (xs : List DyePartR) : ∀ (ys : List Int) (m y : Int), xs.length = ys.length → (y ≤ mostTo xs ys m ↔ y ≤ m ∧ ∀ (i : Nat) (p : DyePartR) (s : Int), xs[i]? = some p → ys[i]? = some s → y ≤ s * 1000 / p.f1) := by
  induction xs with
  | nil => intro ys m y h; simp [mostTo]
  | cons x xs ih =>
    intro ys m y h
    cases ys with
    | nil => simp at h
    | cons z ys =>
      rw [mostTo, ih ys _ y (by simpa using h)]
      constructor
      · rintro ⟨h1, h2⟩
        refine ⟨by omega, fun i p s hp hs => ?_⟩
        cases i with
        | zero =>
          simp at hp hs
          subst hp
          subst hs
          omega
        | succ i => exact h2 i p s (by simpa using hp) (by simpa using hs)
      · rintro ⟨h1, h2⟩
        have h0 := h2 0 x z rfl rfl
        exact ⟨by omega, fun i p s hp hs => h2 (i + 1) p s (by simpa using hp) (by simpa using hs)⟩
def mostY (xs : List DyePartR) (L : Int) (ys : List Int) : Int := mostTo xs ys (min (L / 20 * 1000) 50000)
theorem most_iff {xs : List DyePartR} {L T Y : Int} {ys : List Int} (h : bathB xs L T Y ys = true) (hT : inB T 60 95 = true) {y : Int} (hy : y ≤ 50000) : readyB xs L T ys y = true ↔ y ≤ mostY xs L ys := by
  obtain ⟨h1, h2, h3, h4, h5, h6⟩ := bath_of h
  unfold mostY
  rw [mostTo_iff _ _ _ _ h2.symm]
  simp only [readyB, Bool.and_eq_true, hT, and_true, waterB, decide_eq_true_eq]
  rw [water_iff]
  constructor
  · rintro ⟨ha, hb⟩
    refine ⟨by omega, fun i p s hp hs => ?_⟩
    have := enoughB_of ha i p s (List.getElem?_eq_some_iff.1 hp).1 hp hs
    exact (needI_iff (part_at h1 hp).2.1).1 this
  · rintro ⟨ha, hb⟩
    exact ⟨enoughB_yes fun i p s _ hp hs => (needI_iff (part_at h1 hp).2.1).2 (hb i p s hp hs), by omega⟩
theorem most_bd {xs : List DyePartR} {L T Y : Int} {ys : List Int} (h : bathB xs L T Y ys = true) : 0 ≤ mostY xs L ys ∧ mostY xs L ys ≤ 50000 := by
  obtain ⟨h1, h2, h3, h4, h5, h6⟩ := bath_of h
  have e1 := (mostTo_iff xs ys (min (L / 20 * 1000) 50000) 0 h2.symm).2 ⟨by omega, fun i p s hp hs => by
    have := part_at h1 hp
    have := grams_at h3 hs
    exact Int.ediv_nonneg (by omega) (by omega)⟩
  have e2 := (mostTo_iff xs ys (min (L / 20 * 1000) 50000) (mostY xs L ys) h2.symm).1 (Int.le_refl _)
  exact ⟨e1, by omega⟩

/-- The depth, up to a place. -/
def depthTo : List DyePartR → List Int → Int → Int → Int
  | p :: ps, s :: ss, y, m => depthTo ps ss y (min m (100000 * s / (p.f1 * y)))
  | _, _, _, m => m
theorem depthTo_step (xs : List DyePartR) : ∀ (ys : List Int) (y m : Int) (k : Nat) (p : DyePartR) (s : Int), xs[k]? = some p → ys[k]? = some s → depthTo (xs.take (k + 1)) (ys.take (k + 1)) y m = min (depthTo (xs.take k) (ys.take k) y m) (100000 * s / (p.f1 * y)) := by
  induction xs with
  | nil => intro ys y m k p s h; simp at h
  | cons x xs ih =>
    intro ys y m k p s hp hs
    cases ys with
    | nil => simp at hs
    | cons z ys =>
      cases k with
      | zero =>
        simp at hp hs
        subst hp
        subst hs
        simp [depthTo]
      | succ k =>
        simp only [List.getElem?_cons_succ] at hp hs
        rw [List.take_succ_cons, List.take_succ_cons, List.take_succ_cons, List.take_succ_cons, depthTo, depthTo, ih ys _ _ k p s hp hs]
theorem depthTo_zero (xs : List DyePartR) (ys : List Int) (y m : Int) : depthTo (xs.take 0) (ys.take 0) y m = m := by simp [depthTo]
noncomputable def depthI (xs : List DyePartR) (L T Y : Int) (ys : List Int) (y : Int) : Int := if (bathB xs L T Y ys && inB y 1 50000) = true then depthTo xs ys y 100 else 0

/-- What is left of a dyed bath. -/
def leftL (xs : List DyePartR) (y : Int) (ys : List Int) : List Int := List.zipWith (fun s n => s - n) ys (needs xs y)
noncomputable def dyeB (xs : List DyePartR) (L T Y : Int) (ys : List Int) : Bool := bathB xs L T Y ys && readyB xs L T ys Y
theorem leftL_len {xs : List DyePartR} {y : Int} {ys : List Int} (h : ys.length = xs.length) : (leftL xs y ys).length = ys.length := by
  unfold leftL
  rw [List.length_zipWith, needs_len]
  omega
theorem leftL_at {xs : List DyePartR} {y : Int} {ys : List Int} {k : Nat} {p : DyePartR} {s : Int} (hp : xs[k]? = some p) (hs : ys[k]? = some s) : (leftL xs y ys)[k]? = some (s - needI p y) := by
  unfold leftL
  simp [List.getElem?_zipWith, hs, needs_at hp]

/-- The place of a stuff in a recipe. -/
def findS (xs : List DyePartR) (s : ByteArray) : Option Nat := xs.findIdx? (fun p => p.f0.toList == s.toList)
end Go.Proofs.Ytjlidgeeehlkcaa
