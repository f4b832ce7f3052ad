/- Areas of a chart: what can be reached, floods, the numbers of areas and that they are one and the same. No condition. -/
import Derived.Test.YtpnmnkdnlajfiaaChartMath
namespace Go.Proofs.Ytpnmnkdnlajfiaa
open Go.RowKit

/-- Two places lie side by side, or one below the other. -/
def Nb (m N i j : Nat) : Prop := i < N ∧ j < N ∧ (j + m = i ∨ (j + 1 = i ∧ i % m ≠ 0) ∨ (j = i + 1 ∧ j % m ≠ 0) ∨ j = i + m)
/-- A step: a place beside with the same color. -/
def Sp (m : Nat) (xs : List Int) (i j : Nat) : Prop := Nb m xs.length i j ∧ xs.getD i 0 = xs.getD j 0
def Rch (m : Nat) (xs : List Int) (i j : Nat) : Prop := ∀ S : Nat → Prop, S i → (∀ x y, S x → Sp m xs x y → S y) → S j
section
variable {m : Nat} {xs : List Int} {i j k : Nat}
theorem Nb.symm {N : Nat} (h : Nb m N i j) : Nb m N j i := by
  obtain ⟨h1, h2, h3⟩ := h
  refine ⟨h2, h1, ?_⟩
  rcases h3 with h | ⟨h, g⟩ | ⟨h, g⟩ | h
  · exact .inr (.inr (.inr h.symm))
  · exact .inr (.inr (.inl ⟨h.symm, g⟩))
  · exact .inr (.inl ⟨h.symm, g⟩)
  · exact .inl h.symm
theorem Sp.symm (h : Sp m xs i j) : Sp m xs j i := ⟨h.1.symm, h.2.symm⟩
theorem Rch.refl (m : Nat) (xs : List Int) (i : Nat) : Rch m xs i i := fun _ h _ => h
theorem Rch.step (h : Rch m xs i j) (s : Sp m xs j k) : Rch m xs i k := fun S h1 h2 => h2 _ _ (h S h1 h2) s
theorem Rch.trans (h : Rch m xs i j) (g : Rch m xs j k) : Rch m xs i k := fun S h1 h2 => g S (h S h1 h2) h2
theorem Rch.symm (h : Rch m xs i j) : Rch m xs j i :=
  h (fun x => Rch m xs x i) (Rch.refl _ _ _) fun _ y hx hs => ((Rch.refl m xs y).step hs.symm).trans hx
theorem Rch.lt (h : Rch m xs i j) (hi : i < xs.length) : j < xs.length := h (· < xs.length) hi fun _ _ _ s => s.1.2.1
theorem Rch.col (h : Rch m xs i j) : xs.getD i 0 = xs.getD j 0 := h (fun x => xs.getD i 0 = xs.getD x 0) rfl fun _ _ hx s => hx.trans s.2
end
theorem nodup_le : ∀ (n : Nat) (l : List Nat), l.Nodup → (∀ x ∈ l, x < n) → l.length ≤ n
  | 0, l, _, h => by
    cases l with
    | nil => simp
    | cons a l => have := h a (by simp); omega
  | n + 1, l, hd, h => by
    by_cases hn : n ∈ l
    · have h1 := nodup_le n (l.erase n) (hd.erase n) (fun x hx => by
        have := (hd.mem_erase_iff.1 hx)
        have := h x this.2
        omega)
      rw [List.length_erase_of_mem hn] at h1
      omega
    · have := nodup_le n l hd (fun x hx => by
        have h1 := h x hx
        have : x ≠ n := fun e => hn (e ▸ hx)
        omega)
      omega
/-- A flood from place i: q is what has been reached, t places of it and j neighbors (out of L) of the next one are done with. -/
structure Flood (m : Nat) (xs : List Int) (i : Nat) (q : List Nat) (t : Nat) (L : List Nat) (j : Nat) : Prop where
  head : q[0]? = some i
  nodup : q.Nodup
  reach : ∀ x ∈ q, Rch m xs i x
  done : ∀ s, s < t → ∀ x, q[s]? = some x → ∀ y, Sp m xs x y → y ∈ q
  part : ∀ jj, jj < j → ∀ y, L[jj]? = some y → xs.getD i 0 = xs.getD y 0 → y ∈ q
section
variable {m : Nat} {xs : List Int} {i t j : Nat} {q L : List Nat}
theorem Flood.start (m : Nat) (xs : List Int) (i : Nat) (L : List Nat) : Flood m xs i [i] 0 L 0 :=
  ⟨rfl, by simp, fun x hx => by simp at hx; subst hx; exact Rch.refl _ _ _, fun s h => by omega, fun s h => by omega⟩
theorem Flood.any (h : Flood m xs i q t L 0) (L' : List Nat) : Flood m xs i q t L' 0 := ⟨h.head, h.nodup, h.reach, h.done, fun s h => by omega⟩
theorem Flood.pos (h : Flood m xs i q t L j) : 0 < q.length := by
  rcases q with _ | ⟨a, q⟩
  · have := h.head; simp at this
  · simp
theorem Flood.mem (h : Flood m xs i q t L j) : i ∈ q := List.mem_of_getElem? h.head
theorem Flood.lt (h : Flood m xs i q t L j) (hi : i < xs.length) : ∀ x ∈ q, x < xs.length := fun x hx => (h.reach x hx).lt hi
theorem Flood.len (h : Flood m xs i q t L j) (hi : i < xs.length) : q.length ≤ xs.length := nodup_le _ _ h.nodup (h.lt hi)
theorem Flood.skip {y : Nat} (h : Flood m xs i q t L j) (hy : L[j]? = some y) (hs : y ∈ q ∨ xs.getD i 0 ≠ xs.getD y 0) : Flood m xs i q t L (j + 1) :=
  ⟨h.head, h.nodup, h.reach, h.done, fun jj hj z hz hc => by
    by_cases e : jj = j
    · subst e; rw [hy] at hz; cases hz
      exact hs.elim id (fun n => absurd hc n)
    · exact h.part jj (by omega) z hz hc⟩
theorem Flood.take {x y : Nat} (h : Flood m xs i q t L j) (hx : q[t]? = some x) (hL : ∀ y ∈ L, Nb m xs.length x y) (hy : L[j]? = some y) (hc : xs.getD i 0 = xs.getD y 0) (hq : y ∉ q) : Flood m xs i (q ++ [y]) t L (j + 1) := by
  have hxq : x ∈ q := List.mem_of_getElem? hx
  have hxr := h.reach x hxq
  have htl : t < q.length := (List.getElem?_eq_some_iff.1 hx).1
  have hp := h.pos
  refine ⟨by rw [List.getElem?_append_left hp]; exact h.head, ?_, ?_, ?_, ?_⟩
  · rw [List.nodup_append]
    refine ⟨h.nodup, by simp, fun a ha b hb => ?_⟩
    simp at hb; subst hb
    exact fun e => hq (e ▸ ha)
  · intro z hz
    rcases List.mem_append.1 hz with hz | hz
    · exact h.reach z hz
    · simp at hz; subst hz
      exact hxr.step ⟨hL _ (List.mem_of_getElem? hy), hxr.col.symm.trans hc⟩
  · intro s hs z hz w hw
    rw [List.getElem?_append_left (by omega)] at hz
    exact List.mem_append_left _ (h.done s hs z hz w hw)
  · intro jj hj z hz hcz
    by_cases e : jj = j
    · subst e; rw [hy] at hz; cases hz
      simp
    · exact List.mem_append_left _ (h.part jj (by omega) z hz hcz)
theorem Flood.next {x : Nat} {L' : List Nat} (h : Flood m xs i q t L j) (hj : L.length ≤ j) (hx : q[t]? = some x) (hL : ∀ y, Nb m xs.length x y → y ∈ L) : Flood m xs i q (t + 1) L' 0 :=
  ⟨h.head, h.nodup, h.reach, fun s hs z hz y hy => by
    by_cases e : s = t
    · subst e; rw [hx] at hz; cases hz
      obtain ⟨jj, hjj, hjy⟩ := List.mem_iff_getElem.1 (hL y hy.1)
      exact h.part jj (by omega) y (by rw [List.getElem?_eq_getElem hjj, hjy]) ((h.reach x (List.mem_of_getElem? hx)).col.trans hy.2)
    · exact h.done s (by omega) z hz y hy, fun s h => by omega⟩
theorem Flood.all (h : Flood m xs i q t L j) (ht : q.length ≤ t) (x : Nat) : x ∈ q ↔ Rch m xs i x :=
  ⟨h.reach x, fun r => r (· ∈ q) h.mem fun a b ha hs => by
    obtain ⟨s, hsl, hsa⟩ := List.mem_iff_getElem.1 ha
    exact h.done s (by omega) a (by rw [List.getElem?_eq_getElem hsl, hsa]) b hs⟩
end
/-- The areas of the places below i have their numbers, 0..n-1; other places have a number less than 0. -/
structure Lab (m : Nat) (xs : List Int) (lab : Nat → Int) (n i : Nat) : Prop where
  rng : ∀ x, x < xs.length → -1 ≤ lab x ∧ lab x < n
  done : ∀ x, x < i → x < xs.length → 0 ≤ lab x
  sep : ∀ x, x < xs.length → ∀ y, y < xs.length → 0 ≤ lab x → (lab x = lab y ↔ Rch m xs x y)
  ord : ∀ x, x < xs.length → ∀ a : Int, 0 ≤ a → a < lab x → ∃ j, j < x ∧ lab j = a
  all : ∀ a : Int, 0 ≤ a → a < n → ∃ x, x < i ∧ x < xs.length ∧ lab x = a
open Classical in
/-- The numbers once an area has been flooded. -/
noncomputable def labQ (lab : Nat → Int) (n : Nat) (q : List Nat) (x : Nat) : Int := if x ∈ q then n else lab x
structure Areas (m : Nat) (xs : List Int) (lab : Nat → Int) (n : Nat) : Prop where
  rng : ∀ x, x < xs.length → 0 ≤ lab x ∧ lab x < n
  iff : ∀ x, x < xs.length → ∀ y, y < xs.length → (lab x = lab y ↔ Rch m xs x y)
  ord : ∀ x, x < xs.length → ∀ a : Int, 0 ≤ a → a < lab x → ∃ j, j < x ∧ lab j = a
  all : ∀ a : Int, 0 ≤ a → a < n → ∃ x, x < xs.length ∧ lab x = a
section
variable {m n i : Nat} {xs : List Int} {lab : Nat → Int} {q : List Nat}
theorem labQ_in {x : Nat} (h : x ∈ q) : labQ lab n q x = n := if_pos h
theorem labQ_out {x : Nat} (h : x ∉ q) : labQ lab n q x = lab x := if_neg h
theorem Lab.start (m : Nat) (xs : List Int) : Lab m xs (fun _ => -1) 0 0 :=
  ⟨fun x _ => ⟨by omega, by omega⟩, fun x h => by omega, fun x _ y _ h => by omega, fun x _ a h0 h => by omega, fun a h0 h => by omega⟩
theorem Lab.skip (h : Lab m xs lab n i) (hi : 0 ≤ lab i) : Lab m xs lab n (i + 1) :=
  ⟨h.rng, fun x hx hl => by
    by_cases e : x = i
    · subst e; exact hi
    · exact h.done x (by omega) hl, h.sep, h.ord, fun a h0 ha => by
    obtain ⟨x, h1, h2, h3⟩ := h.all a h0 ha
    exact ⟨x, by omega, h2, h3⟩⟩
theorem Lab.out (h : Lab m xs lab n i) (hi : i < xs.length) (hn : lab i < 0) {x : Nat} (hr : Rch m xs i x) : lab x < 0 := by
  have hl := hr.lt hi
  rcases Int.lt_or_le (lab x) 0 with g | g
  · exact g
  · have := (h.sep x hl i hi g).2 hr.symm
    omega
theorem Lab.ge (h : Lab m xs lab n i) (hi : i < xs.length) (hn : lab i < 0) {x : Nat} (hr : Rch m xs i x) : i ≤ x := by
  rcases Nat.lt_or_ge x i with g | g
  · have := h.done x g (hr.lt hi)
    have := h.out hi hn hr
    omega
  · exact g
theorem Lab.step (h : Lab m xs lab n i) (hi : i < xs.length) (hn : lab i < 0) (hq : ∀ x, x ∈ q ↔ Rch m xs i x) : Lab m xs (labQ lab n q) (n + 1) (i + 1) := by
  have hiq : i ∈ q := (hq i).2 (Rch.refl _ _ _)
  refine ⟨fun x hx => ?_, fun x hx hl => ?_, fun x hx y hy h0 => ?_, fun x hx a h0 ha => ?_, fun a h0 ha => ?_⟩
  · by_cases hxq : x ∈ q
    · rw [labQ_in hxq]; omega
    · rw [labQ_out hxq]; have := h.rng x hx; omega
  · by_cases hxq : x ∈ q
    · rw [labQ_in hxq]; omega
    · rw [labQ_out hxq]
      refine h.done x ?_ hl
      have : x ≠ i := fun e => hxq (e ▸ hiq)
      omega
  · by_cases hxq : x ∈ q
    · rw [labQ_in hxq]
      by_cases hyq : y ∈ q
      · rw [labQ_in hyq]
        exact ⟨fun _ => ((hq x).1 hxq).symm.trans ((hq y).1 hyq), fun _ => rfl⟩
      · rw [labQ_out hyq]
        have := h.rng y hy
        exact ⟨fun e => by omega, fun r => absurd ((hq y).2 (((hq x).1 hxq).trans r)) hyq⟩
    · rw [labQ_out hxq] at h0 ⊢
      by_cases hyq : y ∈ q
      · rw [labQ_in hyq]
        have := h.rng x hx
        exact ⟨fun e => by omega, fun r => absurd ((hq x).2 (((hq y).1 hyq).trans r.symm)) hxq⟩
      · rw [labQ_out hyq]
        exact h.sep x hx y hy h0
  · by_cases hxq : x ∈ q
    · rw [labQ_in hxq] at ha
      obtain ⟨j, h1, h2, h3⟩ := h.all a h0 ha
      have hge := h.ge hi hn ((hq x).1 hxq)
      refine ⟨j, by omega, ?_⟩
      rw [labQ_out, h3]
      intro hjq
      have := h.out hi hn ((hq j).1 hjq)
      omega
    · rw [labQ_out hxq] at ha
      obtain ⟨j, h1, h3⟩ := h.ord x hx a h0 ha
      refine ⟨j, h1, ?_⟩
      rw [labQ_out, h3]
      intro hjq
      have := h.out hi hn ((hq j).1 hjq)
      omega
  · by_cases e : a = n
    · exact ⟨i, by omega, hi, by rw [labQ_in hiq, e]⟩
    · obtain ⟨x, h1, h2, h3⟩ := h.all a h0 (by omega)
      refine ⟨x, by omega, h2, ?_⟩
      rw [labQ_out, h3]
      intro hjq
      have := h.out hi hn ((hq x).1 hjq)
      omega
theorem Lab.end_ (h : Lab m xs lab n i) (hi : xs.length ≤ i) : Areas m xs lab n :=
  ⟨fun x hx => ⟨h.done x (by omega) hx, (h.rng x hx).2⟩, fun x hx y hy => h.sep x hx y hy (h.done x (by omega) hx), h.ord, fun a h0 ha => by
    obtain ⟨x, _, h2, h3⟩ := h.all a h0 ha
    exact ⟨x, h2, h3⟩⟩
theorem Lab.le (h : Lab m xs lab n i) : n ≤ i := by
  have hx : ∀ a : Nat, ∃ x : Nat, a < n → x < i ∧ lab x = (a : Int) := fun a => by
    by_cases ha : a < n
    · obtain ⟨x, h1, _, h3⟩ := h.all a (by omega) (by omega)
      exact ⟨x, fun _ => ⟨h1, h3⟩⟩
    · exact ⟨0, fun g => absurd g ha⟩
  let f : Nat → Nat := fun a => Classical.choose (hx a)
  have hf : ∀ a, a < n → f a < i ∧ lab (f a) = (a : Int) := fun a => Classical.choose_spec (hx a)
  have hnd : ((List.range n).map f).Nodup := by
    rw [List.nodup_iff_pairwise_ne, List.pairwise_map]
    refine List.Pairwise.imp_of_mem ?_ (List.nodup_iff_pairwise_ne.1 List.nodup_range)
    intro a b ha hb hne e
    have h1 := (hf a (List.mem_range.1 ha)).2
    have h2 := (hf b (List.mem_range.1 hb)).2
    rw [e, h2] at h1
    omega
  have := nodup_le i _ hnd (fun x hx => by
    obtain ⟨a, ha, rfl⟩ := List.mem_map.1 hx
    exact (hf a (List.mem_range.1 ha)).1)
  simpa using this
theorem areas_lt {lab' : Nat → Int} {n' : Nat} (h : Areas m xs lab n) (h' : Areas m xs lab' n') {x : Nat} (hx : x < xs.length) (ih : ∀ j, j < x → lab j = lab' j) : ¬ lab x < lab' x := by
  intro g
  obtain ⟨j, hj, hl⟩ := h'.ord x hx (lab x) (h.rng x hx).1 g
  have hjl : j < xs.length := by omega
  have e : lab j = lab x := (ih j hj).trans hl
  have := (h'.iff j hjl x hx).2 ((h.iff j hjl x hx).1 e)
  omega
theorem areas_one {lab' : Nat → Int} {n' : Nat} (h : Areas m xs lab n) (h' : Areas m xs lab' n') : ∀ x, x < xs.length → lab x = lab' x := by
  intro x
  induction x using Nat.strongRecOn with
  | _ x ih =>
    intro hx
    have ih' : ∀ j, j < x → lab j = lab' j := fun j hj => ih j hj (by omega)
    have h1 := areas_lt h h' hx ih'
    have h2 := areas_lt h' h hx (fun j hj => (ih' j hj).symm)
    omega
theorem areas_n {lab' : Nat → Int} {n' : Nat} (h : Areas m xs lab n) (h' : Areas m xs lab' n') : n = n' := by
  have hl := areas_one h h'
  rcases Nat.lt_trichotomy n n' with g | g | g
  · obtain ⟨x, hx, e⟩ := h'.all n (by omega) (by omega)
    have := (h.rng x hx).2
    rw [hl x hx] at this
    omega
  · exact g
  · obtain ⟨x, hx, e⟩ := h.all n' (by omega) (by omega)
    have := (h'.rng x hx).2
    rw [← hl x hx] at this
    omega
end
/-- The list has the numbers of the areas, of which there are n. -/
def IsLabs (m : Nat) (xs : List Int) (L : List Int) (n : Nat) : Prop := L.length = xs.length ∧ Areas m xs (fun x => L.getD x 0) n
/-- The numbers of the areas of all knots, and how many there are. -/
noncomputable def labsOf (m : Nat) (xs : List Int) : List Int := Classical.epsilon fun L => ∃ n, IsLabs m xs L n
noncomputable def cntOf (m : Nat) (xs : List Int) : Nat := Classical.epsilon fun n => ∃ L, IsLabs m xs L n
theorem labs_eq {m n : Nat} {xs L : List Int} (h : IsLabs m xs L n) : L = labsOf m xs ∧ n = cntOf m xs := by
  have h1 : ∃ n, IsLabs m xs (labsOf m xs) n := Classical.epsilon_spec (p := fun L => ∃ n, IsLabs m xs L n) ⟨L, n, h⟩
  have h2 : ∃ L, IsLabs m xs L (cntOf m xs) := Classical.epsilon_spec (p := fun n => ∃ L, IsLabs m xs L n) ⟨n, L, h⟩
  obtain ⟨n1, g1⟩ := h1
  obtain ⟨L2, g2⟩ := h2
  refine ⟨List.ext_getElem (h.1.trans g1.1.symm) fun k hk hk' => ?_, areas_n h.2 g2.2⟩
  have := areas_one h.2 g1.2 k (by rw [← h.1]; exact hk)
  rw [getD_at hk, getD_at hk'] at this
  exact this
theorem labs_of_lab {m n i : Nat} {xs L : List Int} {lab : Nat → Int} (h : Lab m xs lab n i) (hi : xs.length ≤ i) (hl : L.length = xs.length) (hL : ∀ x, x < xs.length → L.getD x 0 = lab x) : IsLabs m xs L n := by
  have h' := h.end_ hi
  refine ⟨hl, fun x hx => ?_, fun x hx y hy => ?_, fun x hx a h0 ha => ?_, fun a h0 ha => ?_⟩
  · rw [hL x hx]; exact h'.rng x hx
  · rw [hL x hx, hL y hy]; exact h'.iff x hx y hy
  · rw [hL x hx] at ha
    obtain ⟨j, hj, e⟩ := h'.ord x hx a h0 ha
    exact ⟨j, hj, by rw [hL j (by omega)]; exact e⟩
  · obtain ⟨x, hx, e⟩ := h'.all a h0 ha
    exact ⟨x, hx, by rw [hL x hx]; exact e⟩
/-- The places beside a place, in the model's order. -/
def nextM (m k i : Nat) : List Nat := (if 0 < i / m then [i - m] else []) ++ ((if 0 < i % m then [i - 1] else []) ++ ((if i % m + 1 < m then [i + 1] else []) ++ (if i / m + 1 < k then [i + m] else [])))
/-- In the program's order. -/
def nextP (m k i : Nat) : List Nat := (if 0 < i / m then [i - m] else []) ++ ((if i / m + 1 < k then [i + m] else []) ++ ((if 0 < i % m then [i - 1] else []) ++ (if i % m + 1 < m then [i + 1] else [])))
theorem div_up {m k i : Nat} (hm : 1 ≤ m) : i / m + 1 < k ↔ i + m < m * k := by
  have h : i / m + 1 = (i + m) / m := by rw [Nat.add_div_right _ (by omega)]
  rw [h, Nat.div_lt_iff_lt_mul (by omega), Nat.mul_comm]
theorem mem_ite {c : Prop} [Decidable c] {a j : Nat} : j ∈ (if c then [a] else []) ↔ c ∧ j = a := by split <;> simp [*]
theorem mod_up {m i : Nat} (hm : 1 ≤ m) (hm8 : m ≤ 8) : i % m + 1 < m ↔ (i + 1) % m ≠ 0 := by
  have hc : m = 1 ∨ m = 2 ∨ m = 3 ∨ m = 4 ∨ m = 5 ∨ m = 6 ∨ m = 7 ∨ m = 8 := by omega
  rcases hc with rfl | rfl | rfl | rfl | rfl | rfl | rfl | rfl <;> omega
theorem mem_nextM {m k i : Nat} (hm : 1 ≤ m) (hm8 : m ≤ 8) (hi : i < m * k) (j : Nat) : j ∈ nextM m k i ↔ Nb m (m * k) i j := by
  unfold nextM Nb
  simp only [List.mem_append, mem_ite, div_up hm, mod_up hm hm8, Nat.div_pos_iff]
  have hz : (m * k) % m = 0 := Nat.mul_mod_right m k
  constructor
  · rintro (⟨h, rfl⟩ | ⟨h, rfl⟩ | ⟨h, rfl⟩ | ⟨h, rfl⟩)
    · exact ⟨hi, by omega, .inl (by omega)⟩
    · have : i ≠ 0 := fun e => by subst e; simp at h
      exact ⟨hi, by omega, .inr (.inl ⟨by omega, by omega⟩)⟩
    · have : i + 1 ≠ m * k := fun e => h (by rw [e]; exact hz)
      exact ⟨hi, by omega, .inr (.inr (.inl ⟨rfl, h⟩))⟩
    · exact ⟨hi, h, .inr (.inr (.inr rfl))⟩
  · rintro ⟨_, h2, h | ⟨h, g⟩ | ⟨rfl, g⟩ | rfl⟩
    · exact .inl ⟨⟨by omega, by omega⟩, by omega⟩
    · exact .inr (.inl ⟨by omega, by omega⟩)
    · exact .inr (.inr (.inl ⟨g, rfl⟩))
    · exact .inr (.inr (.inr ⟨h2, rfl⟩))
theorem mem_nextP {m k i : Nat} (j : Nat) : j ∈ nextP m k i ↔ j ∈ nextM m k i := by
  unfold nextM nextP
  simp only [List.mem_append]
  constructor
  · rintro (h | h | h | h)
    · exact .inl h
    · exact .inr (.inr (.inr h))
    · exact .inr (.inl h)
    · exact .inr (.inr (.inl h))
  · rintro (h | h | h | h)
    · exact .inl h
    · exact .inr (.inr (.inl h))
    · exact .inr (.inr (.inr h))
    · exact .inr (.inl h)
theorem nextM_len (m k i : Nat) : (nextM m k i).length ≤ 4 := by
  unfold nextM; split <;> split <;> split <;> split <;> simp
theorem nextP_len (m k i : Nat) : (nextP m k i).length ≤ 4 := by
  unfold nextP; split <;> split <;> split <;> split <;> simp
def upI (l : List Nat) : List Int := l.map fun (x : Nat) => (x : Int)
theorem upI_len (l : List Nat) : (upI l).length = l.length := by simp [upI]
theorem upI_get {l : List Nat} {j y : Nat} (h : l[j]? = some y) : (upI l).getD j 0 = (y : Int) := by simp [upI, List.getD_eq_getElem?_getD, h]
theorem upI_app (l : List Nat) (x : Nat) : upI (l ++ [x]) = upI l ++ [(x : Int)] := by simp [upI]
theorem upI_fit {l : List Nat} {N : Nat} (h : ∀ x ∈ l, x < N) (hN : N ≤ 1000000) : ∀ x ∈ upI l, I64 x := by
  intro x hx
  obtain ⟨y, hy, rfl⟩ := List.mem_map.1 hx
  have := h y hy
  exact ⟨by omega, by omega⟩
end Go.Proofs.Ytpnmnkdnlajfiaa
