/- The walks of what copies a chart: the program's copyChart, the model's l1Own and l2Own. Condition: at most 1048576 knots. -/
import Derived.Test.YtpnmnkdnlajfiaaHelpChart
namespace Go.Proofs.Ytpnmnkdnlajfiaa
open Go.RowKit

/-- What a copy of a slice leaves. -/
def OwnCopy (w : World) (xs : List Int) (e : Ending) (w' : World) : Prop :=
  ∃ A c, e = .returned (.slice A xs.length c) ∧ Own w' w.heap.size (.slice A xs.length c) xs ∧ Below w.heap.size w w'
/-- What a copy of a chart leaves. -/
def OwnChart (w : World) (W H : Int) (xs : List Int) (e : Ending) (w' : World) : Prop :=
  ∃ A c, e = .returned (chartV W H (.slice A xs.length c)) ∧ Own w' w.heap.size (.slice A xs.length c) xs ∧ Below w.heap.size w w'

set_option maxRecDepth 100000 in
set_option maxHeartbeats 400000 in
theorem l1Own_any (A : Option Addr) (n c B : Nat) (xs : List Int) (w : World) (h : Rd w B A n c xs) (hB : B ≤ w.heap.size) (hn : n ≤ 1048576) :
    Calls Try.prog 47 #[.slice A n c] w (OwnCopy w xs) := by
  obtain ⟨i0, hi, hz0, hz1, hz2⟩ := info_parts info_int
  obtain rfl := h.len
  have h' := h.alloc hB (.cells #[] 3)
  have ho : Own (w.alloc (.cells #[] 3)) w.heap.size (.slice (some ⟨w.heap.size, 0, none⟩) 0 0) [] := Own.empty (Nat.le_refl _)
  have hb0 := Lib.hid ((Below.refl w.heap.size w).alloc (Nat.le_refl _) (.cells #[] 3))
  cases A with
  | none =>
    obtain ⟨hl0, rfl⟩ := h.nil rfl
    obtain rfl := List.eq_nil_of_length_eq_zero hl0
    clear h h'
    go_enter Try.func47, Try.ntmps47
    go_wp2
    go_ret
    exact ⟨some ⟨w.heap.size, 0, none⟩, 0, rfl, ho, hb0.out⟩
  | some ad =>
    have hcells : ∀ j u, (xs.map (Value.int .i64))[j]? = some u → (w.alloc (.cells #[] 3)).cell? (ad.add j) = some u := by
      intro j u hu
      have hj : j < xs.length := by have := (List.getElem?_eq_some_iff.1 hu).1; simpa using this
      obtain ⟨b, off, e, _, hc⟩ := h'.cells (by omega)
      cases e
      have e : (⟨b, off, none⟩ : Addr).add j = ⟨b, off + j, none⟩ := by unfold Addr.add; split <;> simp_all
      rw [e, hc j hj, getD_at hj]
      rw [List.getElem?_map, List.getElem?_eq_getElem hj] at hu
      exact hu
    have HC := Lib.hid hcells
    have HF := h.fits
    clear hcells h h'
    go_enter Try.func47, Try.ntmps47
    go_wp2_with (at_builtin; refine wpList_append_own _ rfl (.tmp 3) (.tmp 4) 24 rfl w.heap.size 3 i0 (.int .i64 0) 1 8 Try.underlying24 hi hz0 hz1 hz2 rfl (by decide) _ 0 _ rfl ho.1 ad xs.length c (xs.map (Value.int .i64)) rfl (by simp) HC.out (ints_oneCell _ _) (by unfold maxLen; omega) (by omega) (by simp) ?_)
    intro v' w1 hown hg _
    have HO : Own w1 w.heap.size v' xs := ⟨by simpa using hown, HF⟩
    have HB := Lib.hid (hb0.out.grown hg (by simp) (fun k hk => by simp [Value.ownBlock] at hk; omega))
    obtain ⟨A', c', rfl, _, _⟩ := HO.form
    go_wp2
    go_ret
    exact ⟨A', c', rfl, HO, HB.out⟩

/-- What a cell holds, whatever it is. -/
def cv (w : World) (p j : Nat) : Value := (w.cell? ⟨p, j, none⟩).getD undef
theorem cv_of {w : World} {p j : Nat} (h : (w.cell? ⟨p, j, none⟩).isSome = true) : w.cell? ⟨p, j, none⟩ = some (cv w p j) := by
  obtain ⟨u, hu⟩ := Option.isSome_iff_exists.1 h
  rw [cv, hu]; rfl
theorem Blk.cvAt {w : World} {p j : Nat} {t : TypeId} {cs : Array Value} (h : Blk w p t cs) (hj : j < cs.size) : w.cell? ⟨p, j, none⟩ = some (cv w p j) := cv_of (by rw [h.cell]; simp [hj])

end Go.Proofs.Ytpnmnkdnlajfiaa
