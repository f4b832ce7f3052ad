/- What the law of symmetries wants of MoveChart: moved and moved back is as before; moved twice is moved once by both. -/
import Derived.Test.YtihgobceahfpiaaSymGroup
import Derived.Test.YtihgobceahfpiaaMove
namespace Go.Proofs.Ytihgobceahfpiaa
open Go.RowKit

theorem col_turns {p : Pic} (h : p.Ok) (hc : ∀ x ∈ p.xs, 0 ≤ x ∧ x < 6) (t : Nat) : ∀ x ∈ (p.turns t).xs, 0 ≤ x ∧ x < 6 := by
  intro x hx
  obtain ⟨q, hq, e⟩ := List.getElem_of_mem hx
  have hs := p.turns_sides t
  have hl : (p.turns t).xs.length = p.m * p.k := by
    rw [(h.turns t).2.2.2.2, hs.1, hs.2]
    split
    · rfl
    · exact Nat.mul_comm _ _
  have hg := turns_get p t q (by omega)
  rw [getD_at hq, e] at hg
  rw [hg.1, getD_at (by rw [h.2.2.2.2]; exact hg.2)]
  exact hc _ (List.getElem_mem _)
theorem col_mirror {p : Pic} (h : p.Ok) (hc : ∀ x ∈ p.xs, 0 ≤ x ∧ x < 6) : ∀ x ∈ p.mirror.xs, 0 ≤ x ∧ x < 6 := by
  intro x hx
  obtain ⟨q, hq, e⟩ := List.getElem_of_mem hx
  have hl : p.mirror.xs.length = p.m * p.k := h.mirror.2.2.2.2
  have hq' : q < p.m * p.k := by omega
  have hg : p.mirror.xs.getD q 0 = _ := mirror_get (m := p.m) (k := p.k) (xs := p.xs) hq'
  rw [getD_at hq, e] at hg
  rw [hg, getD_at (by rw [h.2.2.2.2]; exact msrc_lt hq')]
  exact hc _ (List.getElem_mem _)
theorem good_of {p : Pic} (h : p.Ok) (hc : ∀ x ∈ p.xs, 0 ≤ x ∧ x < 6) : goodB p.m p.k p.xs = true := by
  obtain ⟨a, b, c, d, e⟩ := h
  simp only [goodB, Bool.and_eq_true, decide_eq_true_eq, List.all_eq_true]
  exact ⟨⟨⟨by simp [isSideB]; omega, by simp [isSideB]; omega⟩, by rw [e, Int.natCast_mul]⟩, fun x hx => by have := hc x hx; simp [isColorB]; omega⟩
theorem move_goodP {p : Pic} (h : p.Ok) (hc : ∀ x ∈ p.xs, 0 ≤ x ∧ x < 6) (s : Nat) : goodB (p.move s).m (p.move s).k (p.move s).xs = true := by
  refine good_of (h.move s) ?_
  unfold Pic.move
  split
  · exact col_turns h.mirror (col_mirror h hc) _
  · exact col_turns h hc _
theorem good_pic {W H : Int} {xs : List Int} (hg : goodB W H xs = true) : ∃ p : Pic, p.Ok ∧ (∀ x ∈ p.xs, 0 ≤ x ∧ x < 6) ∧ W = p.m ∧ H = p.k ∧ xs = p.xs := by
  obtain ⟨m, k, rfl, rfl, m1, m8, k1, k8, hl, _, _, hc⟩ := good_nat hg
  exact ⟨⟨m, k, xs⟩, ⟨m1, m8, k1, k8, hl.out⟩, hc, rfl, rfl, rfl⟩
theorem implMove_pic {p : Pic} (h : p.Ok) (hc : ∀ x ∈ p.xs, 0 ≤ x ∧ x < 6) {s : Nat} (hs : s ≤ 7) (w : World) (A : Option Addr) (c : Nat) (hR : Rd w w.heap.size A p.xs.length c p.xs) :
    Calls Try.prog 29 #[chartV p.m p.k (.slice A p.xs.length c), .int .i64 s] w (OutChart w (p.move s).m (p.move s).k (p.move s).xs true) := by
  have h1 := implMoveChart_any p.m p.k A _ c _ p.xs s w hR (Nat.le_refl _)
  have h2 : moveOk p.m p.k p.xs s = true := by simp [moveOk, good_of h hc, isSymB]; omega
  rw [h2] at h1
  exact h1
theorem specMove_pic {p : Pic} (h : p.Ok) (hc : ∀ x ∈ p.xs, 0 ≤ x ∧ x < 6) {s : Nat} (hs : s ≤ 7) (w : World) (A : Option Addr) (c : Nat) (hR : Rd w w.heap.size A p.xs.length c p.xs) :
    Calls Try.prog 30 #[chartV p.m p.k (.slice A p.xs.length c), .int .i64 s] w (OutChart w (p.move s).m (p.move s).k (p.move s).xs true) := by
  have h1 := specMoveChart_any p.m p.k A _ c _ p.xs s w hR (Nat.le_refl _)
  have h2 : moveOk p.m p.k p.xs s = true := by simp [moveOk, good_of h hc, isSymB]; omega
  rw [h2] at h1
  exact h1
theorem col_move {p : Pic} (h : p.Ok) (hc : ∀ x ∈ p.xs, 0 ≤ x ∧ x < 6) (s : Nat) : ∀ x ∈ (p.move s).xs, 0 ≤ x ∧ x < 6 := (goodB_yes (move_goodP h hc s)).2.2.2
theorem moves_both {W H : Int} {xs : List Int} {a b n : Int} (hg : goodB W H xs = true) (hb : bothB a b = true) (hn : bothN a b = n) : ∃ (fW fH : Int) (fs : List Int) (gW gH : Int) (gs : List Int),
    Hid (∀ (w : World) (A : Option Addr) (c : Nat), Rd w w.heap.size A xs.length c xs → Calls Try.prog 29 #[chartV W H (.slice A xs.length c), .int .i64 a] w (OutChart w fW fH fs true)) ∧
    Hid (∀ (w : World) (A : Option Addr) (c : Nat), Rd w w.heap.size A fs.length c fs → Calls Try.prog 29 #[chartV fW fH (.slice A fs.length c), .int .i64 b] w (OutChart w gW gH gs true)) ∧
    Hid (∀ (w : World) (A : Option Addr) (c : Nat), Rd w w.heap.size A xs.length c xs → Calls Try.prog 29 #[chartV W H (.slice A xs.length c), .int .i64 n] w (OutChart w gW gH gs true)) := by
  obtain ⟨p, h, hc, rfl, rfl, rfl⟩ := good_pic hg
  have hb' := hb
  simp only [bothB, Bool.and_eq_true] at hb'
  obtain ⟨s, rfl, hs⟩ := isSymB_yes hb'.1
  obtain ⟨t, rfl, ht⟩ := isSymB_yes hb'.2
  have hn' : n = ((bothS s t : Nat) : Int) := by rw [← hn]; unfold bothN; rw [if_pos hb, bothI_nat hs ht]
  subst hn'
  refine ⟨_, _, _, _, _, _, Lib.hid fun w A c hR => implMove_pic h hc hs w A c hR, Lib.hid fun w A c hR => implMove_pic (h.move s) (col_move h hc s) ht w A c hR, Lib.hid fun w A c hR => ?_⟩
  have := implMove_pic h hc (bothS_le (a := s) (b := t)) w A c hR
  rw [← move_move h hs ht] at this
  exact this
theorem moves_back {W H : Int} {xs : List Int} {s : Int} (hm : moveOk W H xs s = true) : ∃ (mW mH : Int) (ms : List Int), isSymB s = true ∧
    Hid (∀ (w : World) (A : Option Addr) (c : Nat), Rd w w.heap.size A xs.length c xs → Calls Try.prog 29 #[chartV W H (.slice A xs.length c), .int .i64 s] w (OutChart w mW mH ms true)) ∧
    Hid (∀ (w : World) (A : Option Addr) (c : Nat), Rd w w.heap.size A xs.length c xs → Calls Try.prog 30 #[chartV W H (.slice A xs.length c), .int .i64 s] w (OutChart w mW mH ms true)) ∧
    Hid (∀ (w : World) (A : Option Addr) (c : Nat), Rd w w.heap.size A ms.length c ms → Calls Try.prog 29 #[chartV mW mH (.slice A ms.length c), .int .i64 (undoN s)] w (OutChart w W H xs true)) := by
  have hg := (move_yes hm).1
  have hsy := (move_yes hm).2
  obtain ⟨p, h, hc, rfl, rfl, rfl⟩ := good_pic hg
  obtain ⟨s, rfl, hs⟩ := isSymB_yes hsy
  have hu : undoN (s : Int) = ((undoS s : Nat) : Int) := by unfold undoN; rw [if_pos hsy, undoI_nat hs]
  refine ⟨_, _, _, hsy, Lib.hid fun w A c hR => implMove_pic h hc hs w A c hR, Lib.hid fun w A c hR => specMove_pic h hc hs w A c hR, Lib.hid fun w A c hR => ?_⟩
  have := implMove_pic (h.move s) (col_move h hc s) (undoS_le hs) w A c hR
  rw [move_move h hs (undoS_le hs), both_undo hs, move_zero] at this
  rw [hu]
  exact this
theorem moves_none {W H : Int} {xs : List Int} {s : Int} (hm : moveOk W H xs s = false) : ∃ (mW mH : Int) (ms : List Int),
    Hid (∀ (w : World) (A : Option Addr) (c : Nat), Rd w w.heap.size A xs.length c xs → Calls Try.prog 29 #[chartV W H (.slice A xs.length c), .int .i64 s] w (OutChart w mW mH ms false)) ∧
    Hid (∀ (w : World) (A : Option Addr) (c : Nat), Rd w w.heap.size A xs.length c xs → Calls Try.prog 30 #[chartV W H (.slice A xs.length c), .int .i64 s] w (OutChart w mW mH ms false)) := by
  refine ⟨0, 0, [], Lib.hid fun w A c hR => ?_, Lib.hid fun w A c hR => ?_⟩
  · have := implMoveChart_any W H A _ c _ xs s w hR (Nat.le_refl _)
    rw [hm] at this
    exact this
  · have := specMoveChart_any W H A _ c _ xs s w hR (Nat.le_refl _)
    rw [hm] at this
    exact this
end Go.Proofs.Ytihgobceahfpiaa
