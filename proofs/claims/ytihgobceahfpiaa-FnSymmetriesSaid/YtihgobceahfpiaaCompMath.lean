/- Plain mathematics of the model's completion: which places have been seen, what they hold, how many have changed. -/
import Derived.Test.YtihgobceahfpiaaPlaces
namespace Go.Proofs.Ytihgobceahfpiaa
open Go.RowKit

/-- The first t places of an orbit. -/
def orbN (f : Nat → Nat) (i t : Nat) : List Nat := (List.range t).map fun u => iter f u i
theorem orbN_len (f : Nat → Nat) (i t : Nat) : (orbN f i t).length = t := by simp [orbN]
theorem orbN_succ (f : Nat → Nat) (i t : Nat) : orbN f i (t + 1) = orbN f i t ++ [iter f t i] := by simp [orbN, List.range_succ]
theorem orbN_mem {f : Nat → Nat} {i t p : Nat} : p ∈ orbN f i t ↔ ∃ u, u < t ∧ iter f u i = p := by simp [orbN]
/-- Numbers as the program has them. -/
def castL (L : List Nat) : List Int := L.map fun p : Nat => (p : Int)
theorem castL_len (L : List Nat) : (castL L).length = L.length := by simp [castL]
theorem castL_mem {L : List Nat} {p : Nat} : ((p : Nat) : Int) ∈ castL L ↔ p ∈ L := by
  simp only [castL, List.mem_map]
  constructor
  · rintro ⟨q, hq, e⟩
    obtain rfl : q = p := by omega
    exact hq
  · exact fun h => ⟨p, h, rfl⟩
theorem castL_append (L M : List Nat) : castL (L ++ M) = castL L ++ castL M := by simp [castL]
theorem castL_orb (f : Nat → Nat) (i t : Nat) : castL (orbN f i (t + 1)) = castL (orbN f i t) ++ [((iter f t i : Nat) : Int)] := by rw [orbN_succ, castL_append]; rfl
theorem castL_get {L : List Nat} {k : Nat} (h : k < L.length) : (castL L).getD k 0 = ((L[k] : Nat) : Int) := by
  rw [getD_at (by rw [castL_len]; exact h)]; simp [castL]
theorem orbN_get {f : Nat → Nat} {i t k : Nat} (h : k < t) : (castL (orbN f i t)).getD k 0 = ((iter f k i : Nat) : Int) := by
  rw [castL_get (by rw [orbN_len]; exact h)]; simp [orbN]
section
variable {n : Nat} {f : Nat → Nat}
theorem Ring4.orb_new (h : Ring4 n f) {i t : Nat} (hi : i < n) (ht : t < per f i) : decide (((iter f t i : Nat) : Int) ∈ castL (orbN f i t)) = false := by
  rw [decide_eq_false_iff_not, castL_mem, orbN_mem]
  rintro ⟨u, hu, e⟩
  exact h.iter_new hi t u hu ht e.symm
theorem Ring4.orb_old (h : Ring4 n f) {i : Nat} (hi : i < n) : decide (((iter f (per f i) i : Nat) : Int) ∈ castL (orbN f i (per f i))) = true := by
  rw [decide_eq_true_eq, castL_mem, orbN_mem]
  exact ⟨0, (per_le f i).1, (h.iter_per hi).symm⟩
/-- The places that have been seen. -/
structure SeenInv (n : Nat) (f : Nat → Nat) (i : Nat) (L : List Nat) : Prop where
  nodup : L.Nodup
  shut : ∀ p ∈ L, p < n ∧ f p ∈ L
  all : ∀ q, q < i → q ∈ L
theorem seen_start (n : Nat) (f : Nat → Nat) : SeenInv n f 0 [] := ⟨List.nodup_nil, fun p hp => (by cases hp), fun q hq => absurd hq (Nat.not_lt_zero _)⟩
theorem seen_skip {i : Nat} {L : List Nat} (h : SeenInv n f i L) (hi : i ∈ L) : SeenInv n f (i + 1) L :=
  ⟨h.nodup, h.shut, fun q hq => by
    by_cases e : q = i
    · rw [e]; exact hi
    · exact h.all q (by omega)⟩
theorem orbN_nodup (h : Ring4 n f) {i : Nat} (hi : i < n) : ∀ t, t ≤ per f i → (orbN f i t).Nodup
  | 0, _ => List.nodup_nil
  | t + 1, ht => by
    rw [orbN_succ, List.nodup_append]
    refine ⟨orbN_nodup h hi t (by omega), by simp, fun a ha b hb => ?_⟩
    rw [orbN_mem] at ha
    obtain ⟨u, hu, rfl⟩ := ha
    simp only [List.mem_singleton] at hb
    subst hb
    exact fun e => h.iter_new hi t u hu (by omega) e.symm
theorem shut_iter {L : List Nat} {i : Nat} (hs : ∀ p ∈ L, p < n ∧ f p ∈ L) : ∀ (t p : Nat), p ∈ L → iter f t p ∈ L
  | 0, _, h => h
  | t + 1, p, h => (hs _ (shut_iter (i := i) hs t p h)).2
theorem iter_add (f : Nat → Nat) (p a : Nat) : ∀ b, iter f b (iter f a p) = iter f (a + b) p
  | 0 => rfl
  | b + 1 => by
    show f (iter f b (iter f a p)) = f (iter f (a + b) p)
    rw [iter_add f p a b]
theorem seen_add (h : Ring4 n f) {i : Nat} {L : List Nat} (hs : SeenInv n f i L) (hi : i < n) (hn : i ∉ L) : SeenInv n f (i + 1) (L ++ orbN f i (per f i)) := by
  have hp := per_le f i
  have hper := h.iter_per hi
  refine ⟨?_, ?_, ?_⟩
  · rw [List.nodup_append]
    refine ⟨hs.nodup, orbN_nodup h hi _ (Nat.le_refl _), fun a ha b hb e => ?_⟩
    subst e
    rw [orbN_mem] at hb
    obtain ⟨u, hu, rfl⟩ := hb
    have := shut_iter (i := i) hs.shut (per f i - u) _ ha
    rw [iter_add, show u + (per f i - u) = per f i by omega, hper] at this
    exact hn this
  · intro p hpm
    rcases List.mem_append.1 hpm with hpm | hpm
    · exact ⟨(hs.shut p hpm).1, List.mem_append_left _ (hs.shut p hpm).2⟩
    · rw [orbN_mem] at hpm
      obtain ⟨u, hu, rfl⟩ := hpm
      refine ⟨h.iter_lt hi u, List.mem_append_right _ (orbN_mem.2 ?_)⟩
      by_cases e : u + 1 = per f i
      · exact ⟨0, hp.1, by show i = f (iter f u i); have : iter f (u + 1) i = i := by rw [e]; exact hper
                           exact this.symm⟩
      · exact ⟨u + 1, by omega, rfl⟩
  · intro q hq
    by_cases e : q = i
    · exact List.mem_append_right _ (orbN_mem.2 ⟨0, hp.1, e.symm⟩)
    · exact List.mem_append_left _ (hs.all q (by omega))
/-- What the chart holds when the places of a list are completed. -/
def OutInv (g : Nat → Nat) (xs : List Int) (L : List Nat) (zs : List Int) : Prop := zs.length = xs.length ∧ ∀ p, p < xs.length → zs.getD p 0 = if p ∈ L then ((bestC g xs p : Nat) : Int) else xs.getD p 0
theorem out_start (g : Nat → Nat) (xs : List Int) : OutInv g xs [] xs := ⟨rfl, fun p _ => by rw [if_neg (by simp)]⟩
theorem out_step {g : Nat → Nat} {xs zs : List Int} {L : List Nat} {p : Nat} {x : Int} (h : OutInv g xs L zs) (hp : p < xs.length) (hx : ((bestC g xs p : Nat) : Int) = x) : OutInv g xs (L ++ [p]) (zs.set p x) := by
  refine ⟨by rw [List.length_set]; exact h.1, fun q hq => ?_⟩
  by_cases e : p = q
  · subst e
    rw [List.getD_eq_getElem?_getD, List.getElem?_set_self (by rw [h.1]; exact hp), if_pos (by simp), hx]; rfl
  · rw [List.getD_eq_getElem?_getD, List.getElem?_set_ne e, ← List.getD_eq_getElem?_getD, h.2 q hq]
    by_cases c : q ∈ L
    · rw [if_pos c, if_pos (by simp [c])]
    · rw [if_neg c, if_neg (by simp [c]; omega)]
theorem out_end {xs zs : List Int} {L : List Nat} (h : OutInv f xs L zs) (hs : SeenInv xs.length f xs.length L) : zs = compL f xs xs.length :=
  list_ext0 (by rw [compL_len, h.1]) fun q hq => by
    rw [h.1] at hq
    rw [h.2 q hq, if_pos (hs.all q hq), compL_get hq]
/-- How many places of a list get another color. -/
def chL (g : Nat → Nat) (xs : List Int) (L : List Nat) : Nat := L.countP fun p => !decide (((bestC g xs p : Nat) : Int) = xs.getD p 0)
theorem chL_append (g : Nat → Nat) (xs : List Int) (L M : List Nat) : chL g xs (L ++ M) = chL g xs L + chL g xs M := List.countP_append
theorem chL_le (g : Nat → Nat) (xs : List Int) (L : List Nat) : chL g xs L ≤ L.length := List.countP_le_length
theorem chL_orb (h : Ring4 n f) {i : Nat} (hi : i < n) (xs : List Int) : ∀ t, chL f xs (orbN f i t) + cntTo f xs i t ((bestC f xs i : Nat) : Int) = t
  | 0 => rfl
  | t + 1 => by
    have ih := chL_orb h hi xs t
    rw [orbN_succ, chL_append]
    have hb := h.best_iter hi xs t
    have e1 : chL f xs [iter f t i] = if ((bestC f xs i : Nat) : Int) = xs.getD (iter f t i) 0 then 0 else 1 := by
      unfold chL
      rw [List.countP_cons, List.countP_nil, hb]
      by_cases c : ((bestC f xs i : Nat) : Int) = xs.getD (iter f t i) 0 <;> simp [c]
    have e2 : cntTo f xs i (t + 1) ((bestC f xs i : Nat) : Int) = cntTo f xs i t ((bestC f xs i : Nat) : Int) + cntE xs ((bestC f xs i : Nat) : Int) (iter f t i) := rfl
    rw [e1, e2]
    unfold cntE
    by_cases c : ((bestC f xs i : Nat) : Int) = xs.getD (iter f t i) 0
    · rw [if_pos c, if_pos c.symm]; omega
    · rw [if_neg c, if_neg (fun e => c e.symm)]; omega
theorem chTo_count {xs ys : List Int} {g : Nat → Nat} : ∀ j, (∀ q, q < j → ys.getD q 0 = ((bestC g xs q : Nat) : Int)) → chTo xs ys j = chL g xs (List.range j)
  | 0, _ => rfl
  | j + 1, h => by
    rw [List.range_succ, chL_append, ← chTo_count j (fun q hq => h q (by omega))]
    show chTo xs ys j + _ = _
    congr 1
    unfold chL
    rw [List.countP_cons, List.countP_nil, h j (by omega)]
    by_cases c : ((bestC g xs j : Nat) : Int) = xs.getD j 0 <;> simp [c]
theorem ch_end {xs : List Int} {L : List Nat} (hs : SeenInv xs.length f xs.length L) : chL f xs L = chTo xs (compL f xs xs.length) xs.length := by
  rw [chTo_count (g := f) _ (fun q hq => compL_get hq)]
  have hp : L.Perm (List.range xs.length) := by
    rw [List.perm_ext_iff_of_nodup hs.nodup List.nodup_range]
    intro a
    rw [List.mem_range]
    exact ⟨fun ha => (hs.shut a ha).1, fun ha => hs.all a ha⟩
  exact hp.countP_eq _
end
/-- The greatest count so far. -/
def mostV (F : Nat → Nat) (j : Nat) : Nat := if j = 0 then 0 else F (bestTo F j)
theorem most_up {F : Nat → Nat} {j : Nat} (h : mostV F j < F j) : bestTo F (j + 1) = j ∧ mostV F (j + 1) = F j := by
  have e : bestTo F (j + 1) = j := by
    by_cases h0 : j = 0
    · subst h0
      show (if F 0 < F 0 then 0 else 0) = 0
      split <;> rfl
    · exact best_step F j (by unfold mostV at h; rwa [if_neg h0] at h)
  exact ⟨e, by unfold mostV; rw [if_neg (by omega), e]⟩
theorem most_stay {F : Nat → Nat} {j : Nat} (h : ¬ mostV F j < F j) : bestTo F (j + 1) = bestTo F j ∧ mostV F (j + 1) = mostV F j := by
  by_cases h0 : j = 0
  · subst h0
    have e : bestTo F 1 = 0 := by show (if F 0 < F 0 then 0 else 0) = 0; split <;> rfl
    have : F 0 = 0 := by unfold mostV at h; simp at h; exact h
    exact ⟨e, by unfold mostV; simp [e, this]⟩
  · have h' : ¬ F (bestTo F j) < F j := by unfold mostV at h; rwa [if_neg h0] at h
    have e := best_stay F j h'
    exact ⟨e, by unfold mostV; rw [if_neg (by omega), if_neg h0, e]⟩
end Go.Proofs.Ytihgobceahfpiaa
