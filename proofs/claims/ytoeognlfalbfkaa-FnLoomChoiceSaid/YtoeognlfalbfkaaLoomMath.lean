/- Looms as data: valid ones, lists in order, the one that is looked for, the one that is put in place. No condition. -/
import Derived.Test.YtoeognlfalbfkaaLoomData
import Derived.Test.YtoeognlfalbfkaaBase
namespace Go.Proofs.Ytoeognlfalbfkaa
open Go.RowKit

/-- What is asked of a loom's state. -/
def LoomSt (s : LoomR) : Prop := (s.f4 = 0 ∧ s.f2 = 0 ∧ s.f3 = 0) ∨ ((s.f4 = 1 ∨ s.f4 = 2) ∧ 10 ≤ s.f2 ∧ s.f2 ≤ 12 * s.f1 ∧ 50 ≤ s.f3) ∨ s.f4 = 3
def LoomOk (s : LoomR) : Prop := (1 ≤ s.f0 ∧ s.f0 ≤ 99) ∧ (30 ≤ s.f1 ∧ s.f1 ≤ 600) ∧ (0 ≤ s.f2 ∧ s.f2 ≤ 4000) ∧ (0 ≤ s.f3 ∧ s.f3 ≤ 500) ∧ LoomSt s
instance (s : LoomR) : Decidable (LoomSt s) := by unfold LoomSt; infer_instance
instance (s : LoomR) : Decidable (LoomOk s) := by unfold LoomOk; infer_instance
def loomB (s : LoomR) : Bool := decide (LoomOk s)
theorem loomB_yes {s : LoomR} (h : LoomOk s) : loomB s = true := decide_eq_true h
theorem loomB_no {s : LoomR} (h : ¬ LoomOk s) : loomB s = false := decide_eq_false h
theorem loomB_of {s : LoomR} (h : loomB s = true) : LoomOk s := of_decide_eq_true h

/-- Up to a place all are valid and in order. -/
def LoomsTo (xs : List LoomR) (k : Nat) : Prop := (∀ i a, i < k → xs[i]? = some a → loomB a = true) ∧ ∀ i a b, i + 1 < k → xs[i]? = some a → xs[i + 1]? = some b → a.f0 < b.f0
def Looms (xs : List LoomR) : Prop := xs.length ≤ 8 ∧ LoomsTo xs xs.length
noncomputable def loomsB (xs : List LoomR) : Bool := @decide (Looms xs) (Classical.propDecidable _)
theorem loomsB_yes {xs : List LoomR} (h : Looms xs) : loomsB xs = true := @decide_eq_true _ (Classical.propDecidable _) h
theorem loomsB_no {xs : List LoomR} (h : ¬ Looms xs) : loomsB xs = false := @decide_eq_false _ (Classical.propDecidable _) h
theorem loomsB_of {xs : List LoomR} (h : loomsB xs = true) : Looms xs := @of_decide_eq_true _ (Classical.propDecidable _) h
theorem loomsTo_zero (xs : List LoomR) : LoomsTo xs 0 := ⟨fun i a h => by omega, fun i a b h => by omega⟩
theorem loomsTo_step {xs : List LoomR} {k : Nat} {a : LoomR} (h : LoomsTo xs k) (ha : xs[k]? = some a) (hs : loomB a = true) (hp : ∀ m p, m + 1 = k → xs[m]? = some p → p.f0 < a.f0) : LoomsTo xs (k + 1) := by
  refine ⟨fun i c hi hc => ?_, fun i c d hi hc hd => ?_⟩
  · rcases Nat.lt_or_ge i k with hlt | hge
    · exact h.1 i c hlt hc
    · obtain rfl : i = k := by omega
      rw [ha] at hc
      obtain rfl : a = c := Option.some.inj hc
      exact hs
  · rcases Nat.lt_or_ge (i + 1) k with hlt | hge
    · exact h.2 i c d hlt hc hd
    · obtain rfl : i + 1 = k := by omega
      rw [ha] at hd
      obtain rfl : a = d := Option.some.inj hd
      exact hp i c rfl hc
theorem looms_long {xs : List LoomR} (h : 8 < xs.length) : loomsB xs = false := loomsB_no fun hc => by have := hc.1; omega
theorem looms_bad1 {xs : List LoomR} {k : Nat} {a : LoomR} (ha : xs[k]? = some a) (hs : loomB a = false) : loomsB xs = false :=
  loomsB_no fun h => by rw [h.2.1 k a (List.getElem?_eq_some_iff.1 ha).1 ha] at hs; cases hs
theorem looms_bad2 {xs : List LoomR} {m k : Nat} {a p : LoomR} (ha : xs[k]? = some a) (hp : xs[m]? = some p) (hm : m + 1 = k) (h : ¬ p.f0 < a.f0) : loomsB xs = false :=
  loomsB_no fun hc => by subst hm; exact h (hc.2.2 m p a (List.getElem?_eq_some_iff.1 ha).1 hp ha)
/-- Ids ascend. -/
theorem looms_lt {xs : List LoomR} (h : Looms xs) : ∀ (d i : Nat) (a b : LoomR), xs[i]? = some a → xs[i + d + 1]? = some b → a.f0 < b.f0 := by
  intro d
  induction d with
  | zero => intro i a b ha hb; exact h.2.2 i a b (List.getElem?_eq_some_iff.1 hb).1 ha hb
  | succ d ih =>
    intro i a b ha hb
    have hlt := (List.getElem?_eq_some_iff.1 hb).1
    obtain ⟨c, hc⟩ : ∃ c, xs[i + d + 1]? = some c := ⟨_, List.getElem?_eq_getElem (by omega)⟩
    have h1 := ih i a c ha hc
    have h2 := h.2.2 (i + d + 1) c b hlt hc hb
    omega
theorem looms_inj {xs : List LoomR} (h : Looms xs) {i j : Nat} {a b : LoomR} (ha : xs[i]? = some a) (hb : xs[j]? = some b) (e : a.f0 = b.f0) : i = j := by
  rcases Nat.lt_trichotomy i j with hl | hl | hl
  · have := looms_lt h (j - i - 1) i a b ha (by rw [show i + (j - i - 1) + 1 = j by omega]; exact hb)
    omega
  · exact hl
  · have := looms_lt h (i - j - 1) j b a hb (by rw [show j + (i - j - 1) + 1 = i by omega]; exact ha)
    omega
/-- A loom put in the place of one with its id. -/
theorem looms_set {xs : List LoomR} (h : loomsB xs = true) {i : Nat} {a y : LoomR} (ha : xs[i]? = some a) (e : y.f0 = a.f0) : loomsB (xs.set i y) = loomB y := by
  have H := loomsB_of h
  have hi := (List.getElem?_eq_some_iff.1 ha).1
  have hself : (xs.set i y)[i]? = some y := by rw [List.getElem?_set, if_pos rfl, if_pos hi]
  have hid : ∀ (j : Nat) (b : LoomR), (xs.set i y)[j]? = some b → ∃ b', xs[j]? = some b' ∧ b.f0 = b'.f0 ∧ (j ≠ i → b = b') := by
    intro j b hb
    rw [List.getElem?_set] at hb
    by_cases hj : i = j
    · subst hj
      rw [if_pos rfl, if_pos hi] at hb
      cases hb
      exact ⟨a, ha, e, fun hn => absurd rfl hn⟩
    · rw [if_neg hj] at hb
      exact ⟨b, hb, rfl, fun _ => rfl⟩
  cases hy : loomB y with
  | false => exact looms_bad1 hself hy
  | true =>
    refine loomsB_yes ⟨by rw [List.length_set]; exact H.1, fun j b hj hb => ?_, fun j b c hj hb hc => ?_⟩
    · obtain ⟨b', hb', _, hne⟩ := hid j b hb
      by_cases hji : j = i
      · subst hji
        rw [hself] at hb
        cases hb
        exact hy
      · rw [hne hji]
        exact H.2.1 j b' (List.getElem?_eq_some_iff.1 hb').1 hb'
    · obtain ⟨b', hb', e1, _⟩ := hid j b hb
      obtain ⟨c', hc', e2, _⟩ := hid _ c hc
      rw [e1, e2]
      exact H.2.2 j b' c' (List.getElem?_eq_some_iff.1 hc').1 hb' hc'

/-- The first of a list that is as wanted, with its place. -/
def seekFrom {α : Type} (P : α → Bool) : List α → Nat → Option (Nat × α)
  | [], _ => none
  | a :: r, i => if P a = true then some (i, a) else seekFrom P r (i + 1)
def seek {α : Type} (P : α → Bool) (xs : List α) : Option (Nat × α) := seekFrom P xs 0
/-- None up to a place is as wanted. -/
def NoneTo {α : Type} (P : α → Bool) (xs : List α) (k : Nat) : Prop := ∀ i a, i < k → xs[i]? = some a → P a = false
section
variable {α : Type} {P : α → Bool} {xs : List α} {k : Nat} {a : α}
theorem noneTo_zero (P : α → Bool) (xs : List α) : NoneTo P xs 0 := fun i a h => by omega
theorem noneTo_step (h : NoneTo P xs k) (ha : xs[k]? = some a) (hp : P a = false) : NoneTo P xs (k + 1) := by
  intro i c hi hc
  rcases Nat.lt_or_ge i k with hlt | hge
  · exact h i c hlt hc
  · obtain rfl : i = k := by omega
    rw [ha] at hc
    obtain rfl : a = c := Option.some.inj hc
    exact hp
theorem seekFrom_some (xs : List α) : ∀ (i k : Nat) (a : α), xs[k]? = some a → P a = true → NoneTo P xs k → seekFrom P xs i = some (i + k, a) := by
  induction xs with
  | nil => intro i k a h; simp at h
  | cons x xs ih =>
    intro i k a ha hp hn
    cases k with
    | zero =>
      simp at ha
      subst ha
      rw [seekFrom, if_pos hp]
      rfl
    | succ k =>
      have h0 := hn 0 x (by omega) rfl
      rw [seekFrom, if_neg (by rw [h0]; decide), ih (i + 1) k a (by simpa using ha) hp (fun j c hj hc => hn (j + 1) c (by omega) (by simpa using hc))]
      rw [show i + 1 + k = i + (k + 1) by omega]
theorem seek_some (ha : xs[k]? = some a) (hp : P a = true) (h : NoneTo P xs k) : seek P xs = some (k, a) := by
  rw [seek, seekFrom_some xs 0 k a ha hp h, Nat.zero_add]
theorem seekFrom_none (xs : List α) : ∀ i : Nat, NoneTo P xs xs.length → seekFrom P xs i = none := by
  induction xs with
  | nil => intro i _; rfl
  | cons x xs ih =>
    intro i hn
    have h0 := hn 0 x (by simp) rfl
    rw [seekFrom, if_neg (by rw [h0]; decide), ih (i + 1) (fun j c hj hc => hn (j + 1) c (by simp; omega) (by simpa using hc))]
theorem seek_none (h : NoneTo P xs xs.length) : seek P xs = none := seekFrom_none xs 0 h
theorem seekFrom_of (xs : List α) : ∀ (i k : Nat) (a : α), seekFrom P xs i = some (k, a) → i ≤ k ∧ xs[k - i]? = some a ∧ P a = true := by
  induction xs with
  | nil => intro i k a h; cases h
  | cons x xs ih =>
    intro i k a h
    rw [seekFrom] at h
    by_cases hp : P x = true
    · rw [if_pos hp] at h
      cases h
      exact ⟨Nat.le_refl _, by simp, hp⟩
    · rw [if_neg hp] at h
      obtain ⟨h1, h2, h3⟩ := ih (i + 1) k a h
      refine ⟨by omega, ?_, h3⟩
      rw [show k - i = (k - (i + 1)) + 1 by omega]
      simpa using h2
theorem seek_of (h : seek P xs = some (k, a)) : xs[k]? = some a ∧ P a = true := by
  have := seekFrom_of xs 0 k a h
  exact ⟨this.2.1, this.2.2⟩
theorem seekFrom_off (xs : List α) : ∀ i : Nat, seekFrom P xs i = none → ∀ a ∈ xs, P a = false := by
  induction xs with
  | nil => intro i _ a h; simp at h
  | cons x xs ih =>
    intro i h a ha
    rw [seekFrom] at h
    by_cases hp : P x = true
    · rw [if_pos hp] at h; cases h
    · rw [if_neg hp] at h
      rcases List.mem_cons.1 ha with rfl | ha
      · exact not_false hp
      · exact ih _ h a ha
theorem seek_off (h : seek P xs = none) : ∀ a ∈ xs, P a = false := seekFrom_off xs 0 h
end
/-- A loom with an id in one of some states. -/
def isAt (id : Int) (st : List Int) (a : LoomR) : Bool := decide (a.f0 = id) && st.contains a.f4
/-- The loom with an id in one of some states, of a valid list. -/
noncomputable def look (xs : List LoomR) (id : Int) (st : List Int) : Option (Nat × LoomR) := if loomsB xs = true then seek (isAt id st) xs else none
theorem look_of {xs : List LoomR} {id : Int} {st : List Int} {k : Nat} {a : LoomR} (h : look xs id st = some (k, a)) : loomsB xs = true ∧ xs[k]? = some a ∧ a.f0 = id ∧ a.f4 ∈ st := by
  unfold look at h
  split at h
  · next hg =>
    obtain ⟨h1, h2⟩ := seek_of h
    unfold isAt at h2
    rw [Bool.and_eq_true, decide_eq_true_eq, List.contains_iff_mem] at h2
    exact ⟨hg, h1, h2.1, h2.2⟩
  · cases h
theorem look_bad {xs : List LoomR} {id : Int} {st : List Int} (h : loomsB xs = false) : look xs id st = none := by unfold look; rw [if_neg (by rw [h]; decide)]
theorem look_seek {xs : List LoomR} {id : Int} {st : List Int} (h : loomsB xs = true) : look xs id st = seek (isAt id st) xs := by unfold look; rw [if_pos h]
/-- The loom itself, and whether there is one. -/
noncomputable def lookR (xs : List LoomR) (id : Int) (st : List Int) : LoomR := match look xs id st with | some (_, a) => a | none => LoomR.zero
noncomputable def lookB (xs : List LoomR) (id : Int) (st : List Int) : Bool := (look xs id st).isSome
theorem lookR_some {xs : List LoomR} {id : Int} {st : List Int} {k : Nat} {a : LoomR} (h : look xs id st = some (k, a)) : lookR xs id st = a ∧ lookB xs id st = true := by unfold lookR lookB; rw [h]; exact ⟨rfl, rfl⟩
theorem lookR_none {xs : List LoomR} {id : Int} {st : List Int} (h : look xs id st = none) : lookR xs id st = LoomR.zero ∧ lookB xs id st = false := by unfold lookR lookB; rw [h]; exact ⟨rfl, rfl⟩
theorem isAt_id {id : Int} {st : List Int} {a : LoomR} (h : ¬ a.f0 = id) : isAt id st a = false := by unfold isAt; rw [decide_eq_false h]; rfl
theorem isAt_eq {id : Int} {st : List Int} {a : LoomR} (h : a.f0 = id) : isAt id st a = st.contains a.f4 := by unfold isAt; rw [decide_eq_true h]; rfl
/-- Where it is, as a number. -/
def placeI (o : Option (Nat × LoomR)) : Int := match o with | some (k, _) => (k : Int) | none => -1
/-- A list with a loom in a place, if it is valid. -/
def put5 (xs : List LoomR) (k : Nat) (y : LoomR) : List LoomR × Bool := if loomB y = true then (xs.set k y, true) else ([], false)
/-- All looms with the id of one are that one. -/
theorem set_map {xs : List LoomR} (h : Looms xs) {i : Nat} {a y : LoomR} (ha : xs[i]? = some a) (e : y.f0 = a.f0) : xs.map (fun b => if b.f0 = y.f0 then y else b) = xs.set i y := by
  apply List.ext_getElem?
  intro j
  rw [List.getElem?_map, List.getElem?_set]
  by_cases hj : i = j
  · subst hj
    rw [if_pos rfl, if_pos (List.getElem?_eq_some_iff.1 ha).1, ha]
    simp [e]
  · rw [if_neg hj]
    cases hb : xs[j]? with
    | none => rfl
    | some b =>
      have : b.f0 ≠ y.f0 := fun h' => hj (looms_inj h ha hb (by omega))
      simp [this]
end Go.Proofs.Ytoeognlfalbfkaa
