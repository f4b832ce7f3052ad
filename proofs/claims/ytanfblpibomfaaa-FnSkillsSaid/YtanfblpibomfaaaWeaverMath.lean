/- Weavers as data: valid ones, lists in order with few at each loom, the one that is looked for, the one that is put in place; sums of skills. No condition. -/
import Derived.Test.YtanfblpibomfaaaWeaverData
import Derived.Test.YtanfblpibomfaaaBase
import Derived.Laws.BitsAllLaws
namespace Go.Proofs.Ytanfblpibomfaaa
open Go.RowKit

def weaverB (s : WeaverR) : Bool := inB s.f0 1 99 && wordB s.f1 && inB s.f2 1 15 && inB s.f3 100 12000 && inB s.f4 0 99
/-- Those at a loom. -/
def atL (xs : List WeaverR) (l : Int) : List WeaverR := xs.filter fun a => decide (a.f4 = l)
def seatsN (xs : List WeaverR) (l : Int) : Nat := (atL xs l).length
theorem seatsN_le (xs : List WeaverR) (l : Int) : seatsN xs l ≤ xs.length := List.length_filter_le _ _
theorem atL_app (xs ys : List WeaverR) (l : Int) : atL (xs ++ ys) l = atL xs l ++ atL ys l := by simp [atL]
theorem atL_one_yes {a : WeaverR} {l : Int} (h : a.f4 = l) : atL [a] l = [a] := by simp [atL, h]
theorem atL_one_no {a : WeaverR} {l : Int} (h : ¬ a.f4 = l) : atL [a] l = [] := by simp [atL, h]
theorem atL_drop {xs : List WeaverR} {k : Nat} {a : WeaverR} (ha : xs[k]? = some a) (l : Int) : atL (xs.drop k) l = atL [a] l ++ atL (xs.drop (k + 1)) l := by
  obtain ⟨hlt, e⟩ := List.getElem?_eq_some_iff.1 ha
  rw [List.drop_eq_getElem_cons hlt, e, ← atL_app]
  rfl
/-- Up to a place all are valid, in order and few at their loom. -/
def WTo (xs : List WeaverR) (k : Nat) : Prop :=
  (∀ i a, i < k → xs[i]? = some a → weaverB a = true ∧ (a.f4 ≠ 0 → seatsN xs a.f4 ≤ 3)) ∧ ∀ i a b, i + 1 < k → xs[i]? = some a → xs[i + 1]? = some b → a.f0 < b.f0
def Weavers (xs : List WeaverR) : Prop := xs.length ≤ 8 ∧ WTo xs xs.length
noncomputable def weaversB (xs : List WeaverR) : Bool := @decide (Weavers xs) (Classical.propDecidable _)
theorem weaversB_yes {xs : List WeaverR} (h : Weavers xs) : weaversB xs = true := @decide_eq_true _ (Classical.propDecidable _) h
theorem weaversB_no {xs : List WeaverR} (h : ¬ Weavers xs) : weaversB xs = false := @decide_eq_false _ (Classical.propDecidable _) h
theorem weaversB_of {xs : List WeaverR} (h : weaversB xs = true) : Weavers xs := @of_decide_eq_true _ (Classical.propDecidable _) h
theorem wTo_zero (xs : List WeaverR) : WTo xs 0 := ⟨fun i a h => by omega, fun i a b h => by omega⟩
theorem wTo_step {xs : List WeaverR} {k : Nat} {a : WeaverR} (h : WTo xs k) (ha : xs[k]? = some a) (hs : weaverB a = true) (hp : ∀ m p, m + 1 = k → xs[m]? = some p → p.f0 < a.f0) (h3 : a.f4 ≠ 0 → seatsN xs a.f4 ≤ 3) : WTo xs (k + 1) := by
  refine ⟨fun i c hi hc => ?_, fun i c d hi hc hd => ?_⟩
  · rcases Nat.lt_or_ge i k with hlt | hge
    · exact h.1 i c hlt hc
    · obtain rfl : i = k := by omega
      rw [ha] at hc
      obtain rfl : a = c := Option.some.inj hc
      exact ⟨hs, h3⟩
  · rcases Nat.lt_or_ge (i + 1) k with hlt | hge
    · exact h.2 i c d hlt hc hd
    · obtain rfl : i + 1 = k := by omega
      rw [ha] at hd
      obtain rfl : a = d := Option.some.inj hd
      exact hp i c rfl hc
theorem weavers_long {xs : List WeaverR} (h : 8 < xs.length) : weaversB xs = false := weaversB_no fun hc => by have := hc.1; omega
theorem weavers_bad1 {xs : List WeaverR} {k : Nat} {a : WeaverR} (ha : xs[k]? = some a) (hs : weaverB a = false) : weaversB xs = false :=
  weaversB_no fun h => by rw [(h.2.1 k a (List.getElem?_eq_some_iff.1 ha).1 ha).1] at hs; cases hs
theorem weavers_bad2 {xs : List WeaverR} {m k : Nat} {a p : WeaverR} (ha : xs[k]? = some a) (hp : xs[m]? = some p) (hm : m + 1 = k) (h : ¬ p.f0 < a.f0) : weaversB xs = false :=
  weaversB_no fun hc => by subst hm; exact h (hc.2.2 m p a (List.getElem?_eq_some_iff.1 ha).1 hp ha)
theorem weavers_bad3 {xs : List WeaverR} {k : Nat} {a : WeaverR} (ha : xs[k]? = some a) (h0 : a.f4 ≠ 0) (h : 3 < seatsN xs a.f4) : weaversB xs = false :=
  weaversB_no fun hc => by have := (hc.2.1 k a (List.getElem?_eq_some_iff.1 ha).1 ha).2 h0; omega
theorem weaver_of {s : WeaverR} (h : weaverB s = true) : (1 ≤ s.f0 ∧ s.f0 ≤ 99) ∧ wordB s.f1 = true ∧ (1 ≤ s.f2 ∧ s.f2 ≤ 15) ∧ (100 ≤ s.f3 ∧ s.f3 ≤ 12000) ∧ (0 ≤ s.f4 ∧ s.f4 ≤ 99) := by
  simp only [weaverB, Bool.and_eq_true] at h
  obtain ⟨⟨⟨⟨h0, h1⟩, h2⟩, h3⟩, h4⟩ := h
  exact ⟨of_decide_eq_true h0, h1, of_decide_eq_true h2, of_decide_eq_true h3, of_decide_eq_true h4⟩
theorem weaver_mk {s : WeaverR} (h0 : 1 ≤ s.f0 ∧ s.f0 ≤ 99) (h1 : wordB s.f1 = true) (h2 : 1 ≤ s.f2 ∧ s.f2 ≤ 15) (h3 : 100 ≤ s.f3 ∧ s.f3 ≤ 12000) (h4 : 0 ≤ s.f4 ∧ s.f4 ≤ 99) : weaverB s = true := by
  simp only [weaverB, Bool.and_eq_true]
  exact ⟨⟨⟨⟨decide_eq_true h0, h1⟩, decide_eq_true h2⟩, decide_eq_true h3⟩, decide_eq_true h4⟩
/-- An element of a valid list. -/
theorem weavers_at {xs : List WeaverR} (h : weaversB xs = true) {i : Nat} {a : WeaverR} (ha : xs[i]? = some a) : weaverB a = true :=
  ((weaversB_of h).2.1 i a (List.getElem?_eq_some_iff.1 ha).1 ha).1
/-- Ids ascend. -/
theorem weavers_lt {xs : List WeaverR} (h : Weavers xs) : ∀ (d i : Nat) (a b : WeaverR), xs[i]? = some a → xs[i + d + 1]? = some b → a.f0 < b.f0 := by
  intro d
  induction d with
  | zero => intro i a b ha hb; exact h.2.2 i a b (List.getElem?_eq_some_iff.1 hb).1 ha hb
  | succ d ih =>
    intro i a b ha hb
    have hlt := (List.getElem?_eq_some_iff.1 hb).1
    obtain ⟨c, hc⟩ : ∃ c, xs[i + d + 1]? = some c := ⟨_, List.getElem?_eq_getElem (by omega)⟩
    have h1 := ih i a c ha hc
    have h2 := h.2.2 (i + d + 1) c b hlt hc hb
    omega
theorem weavers_inj {xs : List WeaverR} (h : Weavers xs) {i j : Nat} {a b : WeaverR} (ha : xs[i]? = some a) (hb : xs[j]? = some b) (e : a.f0 = b.f0) : i = j := by
  rcases Nat.lt_trichotomy i j with hl | hl | hl
  · have := weavers_lt h (j - i - 1) i a b ha (by rw [show i + (j - i - 1) + 1 = j by omega]; exact hb)
    omega
  · exact hl
  · have := weavers_lt h (i - j - 1) j b a hb (by rw [show j + (i - j - 1) + 1 = i by omega]; exact ha)
    omega

/-- The first of a list that is as wanted, with its place. -/
def seekFrom {α : Type} (P : α → Bool) : List α → Nat → Option (Nat × α)
  | [], _ => none
  | a :: r, i => if P a = true then some (i, a) else seekFrom P r (i + 1)
def seek {α : Type} (P : α → Bool) (xs : List α) : Option (Nat × α) := seekFrom P xs 0
/-- None up to a place is as wanted. -/
def NoneTo {α : Type} (P : α → Bool) (xs : List α) (k : Nat) : Prop := ∀ i a, i < k → xs[i]? = some a → P a = false
section
variable {α : Type} {P : α → Bool} {xs : List α} {k : Nat} {a : α}
theorem noneTo_zero (P : α → Bool) (xs : List α) : NoneTo P xs 0 := fun i a h => by omega
theorem noneTo_step (h : NoneTo P xs k) (ha : xs[k]? = some a) (hp : P a = false) : NoneTo P xs (k + 1) := by
  intro i c hi hc
  rcases Nat.lt_or_ge i k with hlt | hge
  · exact h i c hlt hc
  · obtain rfl : i = k := by omega
    rw [ha] at hc
    obtain rfl : a = c := Option.some.inj hc
    exact hp
theorem seekFrom_some (xs : List α) : ∀ (i k : Nat) (a : α), xs[k]? = some a → P a = true → NoneTo P xs k → seekFrom P xs i = some (i + k, a) := by
  induction xs with
  | nil => intro i k a h; simp at h
  | cons x xs ih =>
    intro i k a ha hp hn
    cases k with
    | zero =>
      simp at ha
      subst ha
      rw [seekFrom, if_pos hp]
      rfl
    | succ k =>
      have h0 := hn 0 x (by omega) rfl
      rw [seekFrom, if_neg (by rw [h0]; decide), ih (i + 1) k a (by simpa using ha) hp (fun j c hj hc => hn (j + 1) c (by omega) (by simpa using hc))]
      rw [show i + 1 + k = i + (k + 1) by omega]
theorem seek_some (ha : xs[k]? = some a) (hp : P a = true) (h : NoneTo P xs k) : seek P xs = some (k, a) := by
  rw [seek, seekFrom_some xs 0 k a ha hp h, Nat.zero_add]
theorem seekFrom_none (xs : List α) : ∀ i : Nat, NoneTo P xs xs.length → seekFrom P xs i = none := by
  induction xs with
  | nil => intro i _; rfl
  | cons x xs ih =>
    intro i hn
    have h0 := hn 0 x (by simp) rfl
    rw [seekFrom, if_neg (by rw [h0]; decide), ih (i + 1) (fun j c hj hc => hn (j + 1) c (by simp; omega) (by simpa using hc))]
theorem seek_none (h : NoneTo P xs xs.length) : seek P xs = none := seekFrom_none xs 0 h
theorem seekFrom_of (xs : List α) : ∀ (i k : Nat) (a : α), seekFrom P xs i = some (k, a) → i ≤ k ∧ xs[k - i]? = some a ∧ P a = true := by
  induction xs with
  | nil => intro i k a h; cases h
  | cons x xs ih =>
    intro i k a h
    rw [seekFrom] at h
    by_cases hp : P x = true
    · rw [if_pos hp] at h
      cases h
      exact ⟨Nat.le_refl _, by simp, hp⟩
    · rw [if_neg hp] at h
      obtain ⟨h1, h2, h3⟩ := ih (i + 1) k a h
      refine ⟨by omega, ?_, h3⟩
      rw [show k - i = (k - (i + 1)) + 1 by omega]
      simpa using h2
theorem seek_of (h : seek P xs = some (k, a)) : xs[k]? = some a ∧ P a = true := by
  have := seekFrom_of xs 0 k a h
  exact ⟨this.2.1, this.2.2⟩
end
/-- Where it is, as a number. -/
def placeI (o : Option (Nat × WeaverR)) : Int := match o with | some (k, _) => (k : Int) | none => -1
def hasId (id : Int) (a : WeaverR) : Bool := decide (a.f0 = id)
/-- The weaver with an id of a list; of a valid one. -/
def sk11 (xs : List WeaverR) (id : Int) : Option (Nat × WeaverR) := seek (hasId id) xs
noncomputable def find11 (xs : List WeaverR) (id : Int) : Option (Nat × WeaverR) := if weaversB xs = true then sk11 xs id else none
theorem find11_bad {xs : List WeaverR} {id : Int} (h : weaversB xs = false) : find11 xs id = none := by unfold find11; rw [if_neg (by rw [h]; decide)]
theorem find11_good {xs : List WeaverR} {id : Int} (h : weaversB xs = true) : find11 xs id = sk11 xs id := by unfold find11; rw [if_pos h]
theorem sk11_of {xs : List WeaverR} {id : Int} {k : Nat} {a : WeaverR} (h : sk11 xs id = some (k, a)) : xs[k]? = some a ∧ a.f0 = id := by
  have := seek_of h
  exact ⟨this.1, of_decide_eq_true this.2⟩
theorem find11_of {xs : List WeaverR} {id : Int} {k : Nat} {a : WeaverR} (h : find11 xs id = some (k, a)) : weaversB xs = true ∧ xs[k]? = some a ∧ a.f0 = id := by
  unfold find11 at h
  split at h
  · next hg => exact ⟨hg, sk11_of h⟩
  · cases h
theorem find11_sk {xs : List WeaverR} {id : Int} {k : Nat} {a : WeaverR} (h : find11 xs id = some (k, a)) : sk11 xs id = some (k, a) := by
  have hg := (find11_of h).1
  rwa [find11_good hg] at h
/-- A list with a weaver in a place, if it is valid. -/
noncomputable def put11 (xs : List WeaverR) (k : Nat) (y : WeaverR) : List WeaverR × Bool := if weaversB (xs.set k y) = true then (xs.set k y, true) else ([], false)
noncomputable def seat11 (xs : List WeaverR) (id loom : Int) : List WeaverR × Bool := match find11 xs id with | some (k, a) => put11 xs k ⟨a.f0, a.f1, a.f2, a.f3, loom⟩ | none => ([], false)
theorem put11_len {xs : List WeaverR} (h : weaversB xs = true) (k : Nat) (y : WeaverR) : (put11 xs k y).1.length ≤ 8 := by
  have := (weaversB_of h).1
  unfold put11
  split
  · simpa using this
  · simp
theorem seat11_len (xs : List WeaverR) (id loom : Int) : (seat11 xs id loom).1.length ≤ 100000 := by
  unfold seat11
  cases h : find11 xs id with
  | none => simp
  | some p =>
    obtain ⟨k, a⟩ := p
    have := put11_len (find11_of h).1 k ⟨a.f0, a.f1, a.f2, a.f3, loom⟩
    simp only
    omega

/-! Sums of skills. -/
def In15 (a : Int) : Prop := 0 ≤ a ∧ a ≤ 15
def sk16 (P : Int → Int → Bool) : Bool := (List.range 16).all fun a => (List.range 16).all fun b => P (a : Int) (b : Int)
theorem sk16_of {P : Int → Int → Bool} (h : sk16 P = true) {a b : Int} (ha : In15 a) (hb : In15 b) : P a b = true := by
  obtain ⟨a0, a1⟩ := ha
  obtain ⟨b0, b1⟩ := hb
  simp only [sk16, List.all_eq_true, List.mem_range] at h
  have := h a.toNat (by omega) b.toNat (by omega)
  rwa [Int.toNat_of_nonneg a0, Int.toNat_of_nonneg b0] at this
def sk163 (P : Int → Int → Int → Bool) : Bool := (List.range 16).all fun a => (List.range 16).all fun b => (List.range 16).all fun c => P (a : Int) (b : Int) (c : Int)
theorem sk163_of {P : Int → Int → Int → Bool} (h : sk163 P = true) {a b c : Int} (ha : In15 a) (hb : In15 b) (hc : In15 c) : P a b c = true := by
  obtain ⟨a0, a1⟩ := ha
  obtain ⟨b0, b1⟩ := hb
  obtain ⟨c0, c1⟩ := hc
  simp only [sk163, List.all_eq_true, List.mem_range] at h
  have := h a.toNat (by omega) b.toNat (by omega) c.toNat (by omega)
  rwa [Int.toNat_of_nonneg a0, Int.toNat_of_nonneg b0, Int.toNat_of_nonneg c0] at this
abbrev andI (a b : Int) : Int := bits .and .i64 a b
abbrev orI (a b : Int) : Int := bits .or .i64 a b
def hasB (skills wanted : Int) : Bool := decide (andI skills wanted = wanted)
theorem andI_in {a b : Int} (ha : In15 a) (hb : In15 b) : In15 (andI a b) := of_decide_eq_true (p := 0 ≤ andI a b ∧ andI a b ≤ 15) (sk16_of (P := fun a b => decide (0 ≤ andI a b ∧ andI a b ≤ 15)) (by kernel_rfl) ha hb)
theorem orI_in {a b : Int} (ha : In15 a) (hb : In15 b) : In15 (orI a b) := of_decide_eq_true (p := 0 ≤ orI a b ∧ orI a b ≤ 15) (sk16_of (P := fun a b => decide (0 ≤ orI a b ∧ orI a b ≤ 15)) (by kernel_rfl) ha hb)
theorem orI_pos {a b : Int} (ha : In15 a) (hb : In15 b) (h : 1 ≤ a) : 1 ≤ orI a b :=
  of_decide_eq_true (p := 1 ≤ a → 1 ≤ orI a b) (sk16_of (P := fun a b => decide (1 ≤ a → 1 ≤ orI a b)) (by kernel_rfl) ha hb) h
/-- A single skill is had wholly or not at all. -/
def oneSk (k : Int) : Bool := decide (k = 1) || decide (k = 2) || decide (k = 4) || decide (k = 8)
theorem oneSk_has {a k : Int} (ha : In15 a) (hk : oneSk k = true) : hasB a k = !decide (andI a k = 0) := by
  have hb : In15 k := by simp only [oneSk, Bool.or_eq_true, decide_eq_true_eq] at hk; constructor <;> omega
  have := of_decide_eq_true (p := oneSk k = true → hasB a k = !decide (andI a k = 0)) (sk16_of (P := fun a k => decide (oneSk k = true → hasB a k = !decide (andI a k = 0))) (by kernel_rfl) ha hb)
  exact this hk
theorem knot_has {a : Int} (ha : In15 a) : hasB a 1 = !decide (andI a 1 = 0) := oneSk_has ha rfl
end Go.Proofs.Ytanfblpibomfaaa
