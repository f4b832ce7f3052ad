/- The fewest weavers who have some skills together: all groups gone through one by one, and the first group found from the front, are the same. No condition. -/
import Derived.Test.YtanfblpibomfaaaWeaverMath
namespace Go.Proofs.Ytanfblpibomfaaa
open Go.RowKit

/-- Lists of numbers in lexicographic order; shorter ones first. -/
def lexLt : List Int → List Int → Bool
  | _, [] => false
  | [], _ :: _ => true
  | a :: aa, b :: bs => decide (a < b) || (decide (a = b) && lexLt aa bs)
def lessG (a b : List Int) : Bool := decide (a.length < b.length) || (decide (a.length = b.length) && lexLt a b)
theorem lexLt_trans : ∀ (a b c : List Int), lexLt a b = true → lexLt b c = true → lexLt a c = true
  | _, [], _, h, _ => by simp [lexLt] at h
  | _, _ :: _, [], _, h => by simp [lexLt] at h
  | [], _ :: _, _ :: _, _, _ => by simp [lexLt]
  | a :: aa, b :: bs, c :: cs, h1, h2 => by
    simp only [lexLt, Bool.or_eq_true, Bool.and_eq_true, decide_eq_true_eq] at h1 h2 ⊢
    rcases h1 with h1 | ⟨h1, h1'⟩ <;> rcases h2 with h2 | ⟨h2, h2'⟩
    · exact .inl (by omega)
    · exact .inl (by omega)
    · exact .inl (by omega)
    · exact .inr ⟨by omega, lexLt_trans aa bs cs h1' h2'⟩
theorem lexLt_tri : ∀ (a b : List Int), a.length = b.length → lexLt a b = false → lexLt b a = false → a = b
  | [], [], _, _, _ => rfl
  | [], _ :: _, h, _, _ => by simp at h
  | _ :: _, [], h, _, _ => by simp at h
  | a :: aa, b :: bs, h, h1, h2 => by
    simp only [lexLt, Bool.or_eq_false_iff, Bool.and_eq_false_iff, decide_eq_false_iff_not] at h1 h2
    obtain ⟨h1a, h1b⟩ := h1
    obtain ⟨h2a, h2b⟩ := h2
    obtain rfl : a = b := by omega
    simp only [not_true_eq_false, false_or] at h1b h2b
    rw [lexLt_tri aa bs (by simpa using h) h1b h2b]
theorem lessG_trans {a b c : List Int} (h1 : lessG a b = true) (h2 : lessG b c = true) : lessG a c = true := by
  simp only [lessG, Bool.or_eq_true, Bool.and_eq_true, decide_eq_true_eq] at h1 h2 ⊢
  rcases h1 with h1 | ⟨h1, h1'⟩ <;> rcases h2 with h2 | ⟨h2, h2'⟩
  · exact .inl (by omega)
  · exact .inl (by omega)
  · exact .inl (by omega)
  · exact .inr ⟨by omega, lexLt_trans _ _ _ h1' h2'⟩
theorem lessG_tri {a b : List Int} (h1 : lessG a b = false) (h2 : lessG b a = false) : a = b := by
  simp only [lessG, Bool.or_eq_false_iff, Bool.and_eq_false_iff, decide_eq_false_iff_not] at h1 h2
  have e : a.length = b.length := by omega
  refine lexLt_tri a b e ?_ ?_
  · exact h1.2.resolve_left (fun h => h e)
  · exact h2.2.resolve_left (fun h => h e.symm)

/-- What is left of the wanted skills behind one who has some. -/
abbrev leaveI (need s : Int) : Int := andI need (15 - s)
theorem leave_in {n s : Int} (hn : In15 n) (hs : In15 s) : In15 (leaveI n s) := andI_in hn ⟨by have := hs.2; omega, by have := hs.1; omega⟩
theorem cov_base {t n : Int} (ht : In15 t) (hn : In15 n) : hasB t n = decide (leaveI n t = 0) :=
  of_decide_eq_true (p := hasB t n = decide (leaveI n t = 0)) (sk16_of (P := fun t n => decide (hasB t n = decide (leaveI n t = 0))) (by kernel_rfl) ht hn)
theorem leave_or {n t x : Int} (hn : In15 n) (ht : In15 t) (hx : In15 x) : leaveI n (orI t x) = leaveI (leaveI n t) x :=
  of_decide_eq_true (p := leaveI n (orI t x) = leaveI (leaveI n t) x) (sk163_of (P := fun n t x => decide (leaveI n (orI t x) = leaveI (leaveI n t) x)) (by kernel_rfl) hn ht hx)
theorem leave_zero {n : Int} (hn : In15 n) : leaveI n 0 = n :=
  of_decide_eq_true (p := leaveI n 0 = n) (sk16_of (P := fun n _ => decide (leaveI n 0 = n)) (by kernel_rfl) hn hn)
theorem leave_of_zero {x : Int} (hx : In15 x) : leaveI 0 x = 0 :=
  of_decide_eq_true (p := leaveI 0 x = 0) (sk16_of (P := fun x _ => decide (leaveI 0 x = 0)) (by kernel_rfl) hx hx)
/-- How many skills. -/
def popN (a : Int) : Nat := (if a % 2 = 1 then 1 else 0) + (if a / 2 % 2 = 1 then 1 else 0) + (if a / 4 % 2 = 1 then 1 else 0) + (if a / 8 % 2 = 1 then 1 else 0)
theorem popN_le (a : Int) : popN a ≤ 4 := by unfold popN; split <;> split <;> split <;> split <;> omega
theorem pop_leave {n x : Int} (hn : In15 n) (hx : In15 x) : leaveI n x = n ∨ popN (leaveI n x) < popN n :=
  of_decide_eq_true (p := leaveI n x = n ∨ popN (leaveI n x) < popN n) (sk16_of (P := fun n x => decide (leaveI n x = n ∨ popN (leaveI n x) < popN n)) (by kernel_rfl) hn hx)

def Sk (xs : List WeaverR) : Prop := ∀ a ∈ xs, In15 a.f2
def Asc (xs : List WeaverR) : Prop := xs.Pairwise fun a b => a.f0 < b.f0
/-- The ids of a group of a list, all of whose skills are had. -/
def Cov : List WeaverR → Int → List Int → Prop
  | [], need, g => need = 0 ∧ g = []
  | x :: xs, need, g => Cov xs need g ∨ ∃ g', g = x.f0 :: g' ∧ Cov xs (leaveI need x.f2) g'
theorem cov_zero (xs : List WeaverR) : Cov xs 0 [] := by
  induction xs with
  | nil => exact ⟨rfl, rfl⟩
  | cons x xs ih => exact .inl ih
theorem cov_nil {xs : List WeaverR} {need : Int} (h : Cov xs need []) : need = 0 := by
  induction xs with
  | nil => exact h.1
  | cons x xs ih =>
    rcases h with h | ⟨g', e, _⟩
    · exact ih h
    · cases e
theorem cov_ids {xs : List WeaverR} : ∀ {need : Int} {g : List Int}, Cov xs need g → ∀ y ∈ g, ∃ a ∈ xs, a.f0 = y := by
  induction xs with
  | nil => intro need g h y hy; rw [h.2] at hy; cases hy
  | cons x xs ih =>
    intro need g h y hy
    rcases h with h | ⟨g', rfl, h⟩
    · obtain ⟨a, ha, e⟩ := ih h y hy
      exact ⟨a, List.mem_cons_of_mem _ ha, e⟩
    · rcases List.mem_cons.1 hy with rfl | hy
      · exact ⟨x, List.mem_cons_self .., rfl⟩
      · obtain ⟨a, ha, e⟩ := ih h y hy
        exact ⟨a, List.mem_cons_of_mem _ ha, e⟩
theorem cov_len {xs : List WeaverR} : ∀ {need : Int} {g : List Int}, Cov xs need g → g.length ≤ xs.length := by
  induction xs with
  | nil => intro need g h; rw [h.2]; simp
  | cons x xs ih =>
    intro need g h
    rcases h with h | ⟨g', rfl, h⟩
    · have := ih h
      simp; omega
    · have := ih h
      simp; omega
/-- Few are enough. -/
theorem cov_few {xs : List WeaverR} : ∀ {need : Int} {g : List Int}, Sk xs → In15 need → Cov xs need g → ∃ g', Cov xs need g' ∧ g'.length ≤ popN need := by
  induction xs with
  | nil => intro need g _ _ h; exact ⟨[], ⟨h.1, rfl⟩, Nat.zero_le _⟩
  | cons x xs ih =>
    intro need g hs hn h
    have hx := hs x (List.mem_cons_self ..)
    have hs' : Sk xs := fun a ha => hs a (List.mem_cons_of_mem _ ha)
    rcases h with h | ⟨g', rfl, h⟩
    · obtain ⟨g2, h2, hl⟩ := ih hs' hn h
      exact ⟨g2, .inl h2, hl⟩
    · obtain ⟨g2, h2, hl⟩ := ih hs' (leave_in hn hx) h
      rcases pop_leave hn hx with e | e
      · rw [e] at h2 hl
        exact ⟨g2, .inl h2, hl⟩
      · exact ⟨x.f0 :: g2, .inr ⟨g2, rfl, h2⟩, by simp; omega⟩
/-- The first group of so many, from the front. -/
def leastL : List WeaverR → Nat → Int → Option (List Int)
  | _, 0, need => if need = 0 then some [] else none
  | [], _ + 1, _ => none
  | x :: xs, m + 1, need => match leastL xs m (leaveI need x.f2) with
    | some r => some (x.f0 :: r)
    | none => leastL xs (m + 1) need
theorem least_cov {xs : List WeaverR} : ∀ {m : Nat} {need : Int} {r : List Int}, leastL xs m need = some r → Cov xs need r ∧ r.length = m := by
  induction xs with
  | nil =>
    intro m need r h
    cases m with
    | zero =>
      unfold leastL at h
      split at h
      · next e => cases h; exact ⟨⟨e, rfl⟩, rfl⟩
      · cases h
    | succ m => simp [leastL] at h
  | cons x xs ih =>
    intro m need r h
    cases m with
    | zero =>
      unfold leastL at h
      split at h
      · next e => cases h; subst e; exact ⟨cov_zero _, rfl⟩
      · cases h
    | succ m =>
      unfold leastL at h
      split at h
      · next r' hr =>
        cases h
        obtain ⟨h1, h2⟩ := ih hr
        exact ⟨.inr ⟨r', rfl, h1⟩, by simp [h2]⟩
      · obtain ⟨h1, h2⟩ := ih h
        exact ⟨.inl h1, h2⟩
theorem least_none {xs : List WeaverR} : ∀ {m : Nat} {need : Int}, leastL xs m need = none → ∀ g, Cov xs need g → g.length ≠ m := by
  induction xs with
  | nil =>
    intro m need h g hg
    cases m with
    | zero => unfold leastL at h; rw [if_pos hg.1] at h; cases h
    | succ m => rw [hg.2]; simp
  | cons x xs ih =>
    intro m need h g hg hl
    cases m with
    | zero =>
      obtain rfl : g = [] := List.eq_nil_of_length_eq_zero hl
      unfold leastL at h
      rw [if_pos (cov_nil hg)] at h
      cases h
    | succ m =>
      unfold leastL at h
      split at h
      · cases h
      · next hr =>
        rcases hg with hg | ⟨g', rfl, hg⟩
        · exact ih h g hg hl
        · exact ih hr g' hg (by simpa using hl)
theorem least_min {xs : List WeaverR} : ∀ {m : Nat} {need : Int} {r : List Int}, Asc xs → leastL xs m need = some r → ∀ g, Cov xs need g → g.length = m → lexLt g r = false := by
  induction xs with
  | nil =>
    intro m need r _ h g hg _
    rw [hg.2]
    cases m with
    | zero =>
      unfold leastL at h
      split at h
      · cases h; rfl
      · cases h
    | succ m => simp [leastL] at h
  | cons x xs ih =>
    intro m need r ha h g hg hl
    obtain ⟨hx, ha'⟩ := List.pairwise_cons.1 ha
    cases m with
    | zero =>
      obtain rfl : g = [] := List.eq_nil_of_length_eq_zero hl
      unfold leastL at h
      split at h
      · cases h; rfl
      · cases h
    | succ m =>
      unfold leastL at h
      split at h
      · next r' hr =>
        cases h
        rcases hg with hg | ⟨g', rfl, hg⟩
        · cases g with
          | nil => simp at hl
          | cons y g =>
            obtain ⟨a, ham, e⟩ := cov_ids hg y (List.mem_cons_self ..)
            have := hx a ham
            simp only [lexLt, Bool.or_eq_false_iff, Bool.and_eq_false_iff, decide_eq_false_iff_not]
            exact ⟨by omega, .inl (by omega)⟩
        · have := ih ha' hr g' hg (by simpa using hl)
          simp [lexLt, this]
      · next hr =>
        rcases hg with hg | ⟨g', rfl, hg⟩
        · exact ih ha' h g hg hl
        · exact absurd (by simpa using hl) (least_none hr g' hg)
/-- The model's answer. -/
def few11 (xs : List WeaverR) (need : Int) : List Int × Bool :=
  match leastL xs 1 need with
  | some r => (r, true)
  | none => match leastL xs 2 need with
    | some r => (r, true)
    | none => match leastL xs 3 need with
      | some r => (r, true)
      | none => match leastL xs 4 need with
        | some r => (r, true)
        | none => ([], false)

/-- A group as the bits of a number: its ids, its skills. -/
def grpIds : List WeaverR → Nat → List Int
  | [], _ => []
  | x :: xs, s => if s % 2 = 1 then x.f0 :: grpIds xs (s / 2) else grpIds xs (s / 2)
def grpSk : List WeaverR → Nat → Int → Int
  | [], _, t => t
  | x :: xs, s, t => grpSk xs (s / 2) (if s % 2 = 1 then orI t x.f2 else t)
theorem grpIds_len (xs : List WeaverR) : ∀ s : Nat, (grpIds xs s).length ≤ xs.length := by
  induction xs with
  | nil => intro s; simp [grpIds]
  | cons x xs ih =>
    intro s
    have := ih (s / 2)
    unfold grpIds
    split
    · simp; omega
    · simp; omega
theorem grpSk_in {xs : List WeaverR} : ∀ {s : Nat} {t : Int}, Sk xs → In15 t → In15 (grpSk xs s t) := by
  induction xs with
  | nil => intro s t _ h; exact h
  | cons x xs ih =>
    intro s t hs ht
    unfold grpSk
    refine ih (fun a ha => hs a (List.mem_cons_of_mem _ ha)) ?_
    split
    · exact orI_in ht (hs x (List.mem_cons_self ..))
    · exact ht
/-- What the group leaves of the wanted skills. -/
def grpLeft : List WeaverR → Nat → Int → Int
  | [], _, need => need
  | x :: xs, s, need => grpLeft xs (s / 2) (if s % 2 = 1 then leaveI need x.f2 else need)
theorem grp_left {xs : List WeaverR} : ∀ {s : Nat} {t need : Int}, Sk xs → In15 t → In15 need → hasB (grpSk xs s t) need = decide (grpLeft xs s (leaveI need t) = 0) := by
  induction xs with
  | nil => intro s t need _ ht hn; exact cov_base ht hn
  | cons x xs ih =>
    intro s t need hs ht hn
    have hx := hs x (List.mem_cons_self ..)
    have hs' : Sk xs := fun a ha => hs a (List.mem_cons_of_mem _ ha)
    unfold grpSk grpLeft
    split
    · rw [ih hs' (orI_in ht hx) hn, leave_or hn ht hx]
    · rw [ih hs' ht hn]
theorem left_cov {xs : List WeaverR} : ∀ {s : Nat} {need : Int}, grpLeft xs s need = 0 → Cov xs need (grpIds xs s) := by
  induction xs with
  | nil => intro s need h; exact ⟨h, rfl⟩
  | cons x xs ih =>
    intro s need h
    unfold grpLeft at h
    unfold grpIds
    split
    · next hb => rw [if_pos hb] at h; exact .inr ⟨_, rfl, ih h⟩
    · next hb => rw [if_neg hb] at h; exact .inl (ih h)
theorem cov_left {xs : List WeaverR} : ∀ {need : Int} {g : List Int}, Cov xs need g → ∃ s, s < 2 ^ xs.length ∧ grpLeft xs s need = 0 ∧ grpIds xs s = g := by
  induction xs with
  | nil => intro need g h; exact ⟨0, by simp, h.1, h.2.symm⟩
  | cons x xs ih =>
    intro need g h
    rcases h with h | ⟨g', rfl, h⟩
    · obtain ⟨s, h1, h2, h3⟩ := ih h
      refine ⟨2 * s, ?_, ?_, ?_⟩
      · rw [List.length_cons, Nat.pow_succ]; omega
      · unfold grpLeft; rw [if_neg (by omega), show 2 * s / 2 = s by omega]; exact h2
      · unfold grpIds; rw [if_neg (by omega), show 2 * s / 2 = s by omega]; exact h3
    · obtain ⟨s, h1, h2, h3⟩ := ih h
      refine ⟨2 * s + 1, ?_, ?_, ?_⟩
      · rw [List.length_cons, Nat.pow_succ]; omega
      · unfold grpLeft; rw [if_pos (by omega), show (2 * s + 1) / 2 = s by omega]; exact h2
      · unfold grpIds; rw [if_pos (by omega), show (2 * s + 1) / 2 = s by omega, h3]
/-- A group has the wanted skills. -/
def hasG (xs : List WeaverR) (need : Int) (s : Nat) : Bool := hasB (grpSk xs s 0) need
/-- The best of the groups gone through so far. -/
def Best (xs : List WeaverR) (need : Int) (s : Nat) (F : List Int) : Prop :=
  (F = [] ∧ ∀ t, t < s → hasG xs need t = false) ∨ (F ≠ [] ∧ (∃ t, t < s ∧ hasG xs need t = true ∧ grpIds xs t = F) ∧ ∀ t, t < s → hasG xs need t = true → lessG (grpIds xs t) F = false)
theorem best_zero (xs : List WeaverR) (need : Int) : Best xs need 0 [] := .inl ⟨rfl, fun t h => by omega⟩
section
variable {xs : List WeaverR} {need : Int} {s : Nat} {F : List Int}
theorem best_skip (h : Best xs need s F) (hs : hasG xs need s = false) : Best xs need (s + 1) F := by
  have up : ∀ t, t < s + 1 → hasG xs need t = true → t < s := fun t ht hc => by
    rcases Nat.lt_or_ge t s with h1 | h1
    · exact h1
    · obtain rfl : t = s := by omega
      rw [hs] at hc; cases hc
  rcases h with ⟨e, h⟩ | ⟨e, ⟨t, h1, h2, h3⟩, h⟩
  · refine .inl ⟨e, fun t ht => ?_⟩
    cases hc : hasG xs need t with
    | false => rfl
    | true => rw [h t (up t ht hc)] at hc; cases hc
  · exact .inr ⟨e, ⟨t, by omega, h2, h3⟩, fun t ht hc => h t (up t ht hc) hc⟩
theorem best_stay (h : Best xs need s F) (hF : F ≠ []) (hl : lessG (grpIds xs s) F = false) : Best xs need (s + 1) F := by
  rcases h with ⟨e, h⟩ | ⟨e, ⟨t, h1, h2, h3⟩, h⟩
  · exact absurd e hF
  · refine .inr ⟨e, ⟨t, by omega, h2, h3⟩, fun t ht hc => ?_⟩
    rcases Nat.lt_or_ge t s with h1 | h1
    · exact h t h1 hc
    · obtain rfl : t = s := by omega
      exact hl
theorem lexLt_irr : ∀ a : List Int, lexLt a a = false
  | [] => rfl
  | a :: aa => by simp [lexLt, lexLt_irr aa]
theorem lessG_irr (a : List Int) : lessG a a = false := by simp [lessG, lexLt_irr]
theorem hasG_ne (hs : Sk xs) (hn : In15 need) (h1 : 1 ≤ need) (h : hasG xs need s = true) : grpIds xs s ≠ [] := by
  intro e
  unfold hasG at h
  rw [grp_left hs (by constructor <;> omega) hn, leave_zero hn] at h
  have h2 := left_cov (of_decide_eq_true h)
  rw [e] at h2
  have := cov_nil h2
  omega
theorem best_take (h : Best xs need s F) (hs : Sk xs) (hn : In15 need) (h1 : 1 ≤ need) (hc : hasG xs need s = true) (hF : F = [] ∨ lessG (grpIds xs s) F = true) : Best xs need (s + 1) (grpIds xs s) := by
  refine .inr ⟨hasG_ne hs hn h1 hc, ⟨s, by omega, hc, rfl⟩, fun t ht hct => ?_⟩
  rcases Nat.lt_or_ge t s with hlt | hge
  · rcases h with ⟨e, h⟩ | ⟨e, _, h⟩
    · rw [h t hlt] at hct; cases hct
    · have h2 := h t hlt hct
      rcases hF with hF | hF
      · exact absurd hF e
      · cases hl : lessG (grpIds xs t) (grpIds xs s) with
        | false => rfl
        | true => rw [lessG_trans hl hF] at h2; cases h2
  · obtain rfl : t = s := by omega
    exact lessG_irr _
/-- All groups gone through. -/
theorem best_few (hs : Sk xs) (ha : Asc xs) (hn : In15 need) (h : Best xs need (2 ^ xs.length) F) : few11 xs need = (F, !decide (F = [])) := by
  have toCov : ∀ t, hasG xs need t = true → Cov xs need (grpIds xs t) := fun t hc => by
    unfold hasG at hc
    rw [grp_left hs (by constructor <;> omega) hn, leave_zero hn] at hc
    exact left_cov (of_decide_eq_true hc)
  have ofCov : ∀ g, Cov xs need g → ∃ t, t < 2 ^ xs.length ∧ hasG xs need t = true ∧ grpIds xs t = g := fun g hg => by
    obtain ⟨t, h1, h2, h3⟩ := cov_left hg
    refine ⟨t, h1, ?_, h3⟩
    unfold hasG
    rw [grp_left hs (by constructor <;> omega) hn, leave_zero hn]
    exact decide_eq_true h2
  rcases h with ⟨rfl, h⟩ | ⟨hF, ⟨t, _, ht, rfl⟩, h⟩
  · have none_ : ∀ m, leastL xs m need = none := fun m => by
      cases hl : leastL xs m need with
      | none => rfl
      | some r =>
        obtain ⟨t, h2, h3, _⟩ := ofCov r (least_cov hl).1
        rw [h t h2] at h3; cases h3
    unfold few11
    rw [none_ 1, none_ 2, none_ 3, none_ 4]
    rfl
  · have hcov := toCov t ht
    have min_ : ∀ g, Cov xs need g → lessG g (grpIds xs t) = false := fun g hg => by
      obtain ⟨t', h2, h3, rfl⟩ := ofCov g hg
      exact h t' h2 h3
    generalize grpIds xs t = F at *
    obtain ⟨g4, h4, hl4⟩ := cov_few hs hn hcov
    have hp := popN_le need
    have hlen4 : F.length ≤ 4 := by
      have := min_ g4 h4
      simp only [lessG, Bool.or_eq_false_iff, decide_eq_false_iff_not] at this
      omega
    have hpos : 1 ≤ F.length := by
      cases F with
      | nil => exact absurd rfl hF
      | cons _ _ => simp
    have small : ∀ m, m < F.length → leastL xs m need = none := fun m hm => by
      cases hl : leastL xs m need with
      | none => rfl
      | some r =>
        obtain ⟨h2, h3⟩ := least_cov hl
        have := min_ r h2
        simp only [lessG, Bool.or_eq_false_iff, decide_eq_false_iff_not] at this
        omega
    have here : leastL xs F.length need = some F := by
      cases hl : leastL xs F.length need with
      | none => exact absurd rfl (least_none hl F hcov)
      | some r =>
        obtain ⟨h2, h3⟩ := least_cov hl
        have e1 := least_min ha hl F hcov rfl
        have e2 := min_ r h2
        rw [lessG_tri (a := r) (b := F) e2 (by simp [lessG, h3, e1])]
    have hd : decide (F = []) = false := decide_eq_false hF
    rw [hd]
    unfold few11
    generalize hm : F.length = m at *
    match m, hpos, hlen4 with
    | 1, _, _ => rw [here]; rfl
    | 2, _, _ => rw [small 1 (by omega), here]; rfl
    | 3, _, _ => rw [small 1 (by omega), small 2 (by omega), here]; rfl
    | 4, _, _ => rw [small 1 (by omega), small 2 (by omega), small 3 (by omega), here]; rfl
theorem weavers_sk (h : weaversB xs = true) : Sk xs := fun a ha => by
  obtain ⟨i, hi, e⟩ := List.mem_iff_getElem.1 ha
  have := (weaver_of (weavers_at h (i := i) (a := a) (by rw [List.getElem?_eq_getElem hi, e]))).2.2.1
  constructor <;> omega
theorem weavers_asc (h : weaversB xs = true) : Asc xs := by
  have H := weaversB_of h
  unfold Asc
  rw [List.pairwise_iff_getElem]
  intro i j hi hj hij
  exact weavers_lt H (j - i - 1) i _ _ (List.getElem?_eq_getElem hi) (by rw [show i + (j - i - 1) + 1 = j by omega]; exact List.getElem?_eq_getElem hj)
end
end Go.Proofs.Ytanfblpibomfaaa
