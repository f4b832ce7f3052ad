/- Plain mathematics of the law of symmetries: two symmetries after each other are one. -/
import Derived.Test.YtihgobceahfpiaaFnMath
namespace Go.Proofs.Ytihgobceahfpiaa
open Go.RowKit

/-- Four turns are none, two mirrorings are none, a turn ahead of a mirroring is three turns behind it: looked up, place by place. -/
def symOk : Bool := (List.range 9).all fun m => (List.range 9).all fun k => (List.range (m * k)).all fun q =>
  Nat.beq (usrc m k 4 q) q && Nat.beq (msrc m (msrc m q)) q && Nat.beq (tsrc m k (msrc k q)) (msrc m (usrc m k 3 q))
theorem symOk_true : symOk = true := by kernel_rfl
theorem sym_at {m k q : Nat} (hm : m ≤ 8) (hk : k ≤ 8) (hq : q < m * k) : usrc m k 4 q = q ∧ msrc m (msrc m q) = q ∧ tsrc m k (msrc k q) = msrc m (usrc m k 3 q) := by
  have h := symOk_true
  unfold symOk at h
  rw [List.all_eq_true] at h
  have h := h m (List.mem_range.2 (by omega))
  rw [List.all_eq_true] at h
  have h := h k (List.mem_range.2 (by omega))
  rw [List.all_eq_true] at h
  have h := h q (List.mem_range.2 hq)
  simp only [Bool.and_eq_true] at h
  exact ⟨Nat.eq_of_beq_eq_true h.1.1, Nat.eq_of_beq_eq_true h.1.2, Nat.eq_of_beq_eq_true h.2⟩
theorem pic_ext {p q : Pic} (h1 : p.m = q.m) (h2 : p.k = q.k) (h3 : p.xs = q.xs) : p = q := by
  cases p; cases q; simp_all
theorem turns_four {p : Pic} (h : p.Ok) : p.turns 4 = p := by
  have hs := p.turns_sides 4
  refine pic_ext hs.1 hs.2 (list_ext0 ?_ fun q hq => ?_)
  · rw [(h.turns 4).2.2.2.2, hs.1, hs.2, h.2.2.2.2]; rfl
  · rw [(h.turns 4).2.2.2.2, hs.1, hs.2] at hq
    rw [(turns_get p 4 q hq).1, (sym_at h.2.1 h.2.2.2.1 hq).1]
theorem mirror_two {p : Pic} (h : p.Ok) : p.mirror.mirror = p :=
  pic_ext rfl rfl (mirror_mirror h.2.2.2.2)
theorem turn_mirror {p : Pic} (h : p.Ok) : p.turn.mirror = p.mirror.turns 3 := by
  have hs := p.mirror.turns_sides 3
  refine pic_ext hs.1.symm hs.2.symm (list_ext0 ?_ fun q hq => ?_)
  · rw [(h.turn.mirror).2.2.2.2, (h.mirror.turns 3).2.2.2.2, hs.1, hs.2]; rfl
  · rw [(h.turn.mirror).2.2.2.2] at hq
    have hq' : q < p.k * p.m := hq
    have hq2 : q < p.m * p.k := by rw [Nat.mul_comm]; exact hq'
    show (mirrorL p.k p.m (turnL p.m p.k p.xs)).getD q 0 = _
    rw [mirror_get hq', turn_get (by rw [Nat.mul_comm]; exact msrc_lt hq'), (turns_get p.mirror 3 q hq2).1]
    show _ = (mirrorL p.m p.k p.xs).getD (usrc p.m p.k 3 q) 0
    have hu : usrc p.m p.k 3 q < p.m * p.k := (turns_get p.mirror 3 q hq2).2
    rw [mirror_get hu, (sym_at h.2.1 h.2.2.2.1 hq2).2.2]
theorem turns_add (p : Pic) (t : Nat) : ∀ u, (p.turns t).turns u = p.turns (t + u)
  | 0 => rfl
  | u + 1 => by
    show ((p.turns t).turns u).turn = (p.turns (t + u)).turn
    rw [turns_add p t u]
theorem turns_mod {p : Pic} (h : p.Ok) (t : Nat) : p.turns t = p.turns (t % 4) := by
  have : ∀ c, p.turns (t % 4 + 4 * c) = p.turns (t % 4) := by
    intro c
    induction c with
    | zero => rfl
    | succ c ih =>
      have h2 := turns_four (h.turns (t % 4 + 4 * c))
      rw [turns_add] at h2
      rw [show t % 4 + 4 * (c + 1) = t % 4 + 4 * c + 4 by omega, h2, ih]
  have h3 := this (t / 4)
  rwa [show t % 4 + 4 * (t / 4) = t by omega] at h3
theorem mirror_turns {p : Pic} (h : p.Ok) : ∀ t, (p.turns t).mirror = p.mirror.turns (3 * t)
  | 0 => rfl
  | t + 1 => by
    show (p.turns t).turn.mirror = _
    rw [turn_mirror (h.turns t), mirror_turns h t, turns_add]
    rfl
/-- The number of the symmetry that is the same as two after each other. -/
def bothS (a b : Nat) : Nat := ((if 4 ≤ b then 8 - a + b else a + b) % 4) + (if decide (4 ≤ a) = decide (4 ≤ b) then 0 else 4)
theorem move_move {p : Pic} (h : p.Ok) {a b : Nat} (ha : a ≤ 7) (_ : b ≤ 7) : (p.move a).move b = p.move (bothS a b) := by
  have e : ∀ (q : Pic) (s : Nat), q.move s = (if 4 ≤ s then q.mirror else q).turns (s % 4) := fun _ _ => rfl
  rw [e p a, e p (bothS a b), e _ b]
  by_cases h4 : 4 ≤ a
  · by_cases h5 : 4 ≤ b
    · have hc : ¬ 4 ≤ bothS a b := by simp [bothS, h4, h5]; omega
      have hm : bothS a b % 4 = (3 * (a % 4) + b % 4) % 4 := by simp [bothS, h4, h5]; omega
      rw [if_pos h4, if_pos h5, if_neg hc, mirror_turns h.mirror, mirror_two h, turns_add, turns_mod h, hm]
    · have hc : 4 ≤ bothS a b := by simp [bothS, h4, h5]
      have hm : bothS a b % 4 = (a % 4 + b % 4) % 4 := by simp [bothS, h4, h5]
      rw [if_pos h4, if_neg h5, if_pos hc, turns_add, turns_mod h.mirror, hm]
  · by_cases h5 : 4 ≤ b
    · have hc : 4 ≤ bothS a b := by simp [bothS, h4, h5]
      have hm : bothS a b % 4 = (3 * (a % 4) + b % 4) % 4 := by simp [bothS, h4, h5]; omega
      rw [if_neg h4, if_pos h5, if_pos hc, mirror_turns h, turns_add, turns_mod h.mirror, hm]
    · have hc : ¬ 4 ≤ bothS a b := by simp [bothS, h4, h5]; omega
      have hm : bothS a b % 4 = (a % 4 + b % 4) % 4 := by simp [bothS, h4, h5]
      rw [if_neg h4, if_neg h5, if_neg hc, turns_add, turns_mod h, hm]
theorem bothS_le {a b : Nat} : bothS a b ≤ 7 := by unfold bothS; split <;> split <;> omega
theorem bothI_nat {a b : Nat} (ha : a ≤ 7) (hb : b ≤ 7) : bothI (a : Int) (b : Int) = ((bothS a b : Nat) : Int) := by
  have h1 : decide (4 ≤ (a : Int)) = decide (4 ≤ a) := by rw [decide_eq_decide]; omega
  have h2 : decide (4 ≤ (b : Int)) = decide (4 ≤ b) := by rw [decide_eq_decide]; omega
  unfold bothI bothS turnsI
  rw [h1, h2]
  by_cases h4 : 4 ≤ b
  · rw [if_pos h4, if_pos (by omega)]; split <;> omega
  · rw [if_neg h4, if_neg (by omega)]; split <;> omega
/-- The number of the symmetry that undoes one. -/
def undoS (s : Nat) : Nat := if 4 ≤ s then s else if s = 0 then 0 else 4 - s
theorem undoI_nat {s : Nat} (hs : s ≤ 7) : undoI (s : Int) = ((undoS s : Nat) : Int) := by
  unfold undoI undoS
  by_cases h4 : 4 ≤ s
  · rw [if_pos h4, if_pos (by omega)]
  · rw [if_neg h4, if_neg (by omega)]
    by_cases h0 : s = 0
    · rw [if_pos h0, if_pos (by omega)]; rfl
    · rw [if_neg h0, if_neg (by omega)]; omega
theorem undoS_le {s : Nat} (hs : s ≤ 7) : undoS s ≤ 7 := by unfold undoS; split <;> (try split) <;> omega
theorem both_undo {s : Nat} (hs : s ≤ 7) : bothS s (undoS s) = 0 := by
  have : s = 0 ∨ s = 1 ∨ s = 2 ∨ s = 3 ∨ s = 4 ∨ s = 5 ∨ s = 6 ∨ s = 7 := by omega
  rcases this with rfl | rfl | rfl | rfl | rfl | rfl | rfl | rfl <;> decide
theorem move_zero (p : Pic) : p.move 0 = p := rfl
theorem same_iff {p : Pic} {s : Nat} : p.same s = true ↔ p.move s = p := by
  unfold Pic.same
  rw [decide_eq_true_eq]
  exact ⟨fun h => pic_ext h.1 h.2.1 h.2.2, fun h => by rw [h]; exact ⟨rfl, rfl, rfl⟩⟩
theorem same_both {p : Pic} (h : p.Ok) {a b : Nat} (ha : a ≤ 7) (hb : b ≤ 7) (h1 : p.same a = true) (h2 : p.same b = true) : p.same (bothS a b) = true := by
  rw [same_iff] at h1 h2 ⊢
  rw [← move_move h ha hb, h1, h2]
theorem same_undo {p : Pic} (h : p.Ok) {a : Nat} (ha : a ≤ 7) (h1 : p.same a = true) : p.same (undoS a) = true := by
  have h3 := move_move h ha (undoS_le ha)
  rw [same_iff] at h1 ⊢
  rw [both_undo ha, move_zero, h1] at h3
  exact h3
theorem symsTo_mem {p : Pic} {x : Int} : x ∈ symsTo p 8 ↔ ∃ s : Nat, s ≤ 7 ∧ x = (s : Int) ∧ p.same s = true := by
  simp only [symsTo, List.mem_map, List.mem_filter, List.mem_range]
  constructor
  · rintro ⟨s, ⟨h1, h2⟩, rfl⟩; exact ⟨s, by omega, rfl, h2⟩
  · rintro ⟨s, h1, rfl, h2⟩; exact ⟨s, ⟨by omega, h2⟩, rfl⟩
/-- What the law asks of the symmetries of a chart. -/
theorem syms_facts {W H : Int} {xs : List Int} {x : Int} (hx : x ∈ symsX W H xs) : ∃ s : Nat, s ≤ 7 ∧ x = (s : Int) ∧ isSymB x = true ∧ undoN x ∈ symsX W H xs ∧ ∀ y ∈ symsX W H xs, bothB x y = true ∧ bothN x y ∈ symsX W H xs := by
  unfold symsX at hx ⊢
  by_cases hg : goodB W H xs = true
  · rw [if_pos hg] at hx ⊢
    obtain ⟨m, k, rfl, rfl, _⟩ := good_nat hg
    have hok := move_pic hg
    simp only [Int.toNat_natCast] at hx ⊢
    obtain ⟨s, hs, rfl, h1⟩ := symsTo_mem.1 hx
    have hsym : isSymB (s : Int) = true := by simp [isSymB]; omega
    refine ⟨s, hs, rfl, hsym, ?_, fun y hy => ?_⟩
    · unfold undoN
      rw [if_pos hsym, undoI_nat hs]
      exact symsTo_mem.2 ⟨_, undoS_le hs, rfl, same_undo hok hs h1⟩
    · obtain ⟨t, ht, rfl, h2⟩ := symsTo_mem.1 hy
      have htsym : isSymB (t : Int) = true := by simp [isSymB]; omega
      have hb : bothB (s : Int) (t : Int) = true := by simp [bothB, hsym, htsym]
      refine ⟨hb, ?_⟩
      unfold bothN
      rw [if_pos hb, bothI_nat hs ht]
      exact symsTo_mem.2 ⟨_, bothS_le, rfl, same_both hok hs ht h1 h2⟩
  · rw [if_neg hg] at hx; cases hx
end Go.Proofs.Ytihgobceahfpiaa
