/- The library's copy of a row of numbers. Condition: the row is short. -/
import Derived.Test.YtpnmnkdnlajfiaaCopy
namespace Go.Proofs.Ytpnmnkdnlajfiaa
open Go.RowKit

set_option maxRecDepth 100000 in
set_option maxHeartbeats 1000000 in
/-- The copy of a row of numbers. -/
theorem cloneInts_any (b off n c B : Nat) (xs : List Int) (w : World) (h : Rd w B (some ⟨b, off, none⟩) n c xs) (hB : B ≤ w.heap.size) (hn : n ≤ 1048576) :
    Calls Try.prog 21 #[.slice (some ⟨b, off, none⟩) n c] w (OwnCopy w xs) := by
  obtain ⟨i0, hi, hz0, hz1, hz2⟩ := info_parts info_int
  obtain rfl := h.len
  have h' := h.alloc hB (.cells #[] 3)
  have ho : Own (w.alloc (.cells #[] 3)) w.heap.size (.slice (some ⟨w.heap.size, 0, none⟩) 0 0) [] := Own.empty (Nat.le_refl _)
  have hb0 := Lib.hid ((Below.refl w.heap.size w).alloc (Nat.le_refl _) (.cells #[] 3))
  have hcells : ∀ j u, (xs.map (Value.int .i64))[j]? = some u → (w.alloc (.cells #[] 3)).cell? ((⟨b, off, none⟩ : Addr).add j) = some u := by
    intro j u hu
    have hj : j < xs.length := by have := (List.getElem?_eq_some_iff.1 hu).1; simpa using this
    obtain ⟨_, _, e, _, hc⟩ := h'.cells (by omega)
    cases e
    have e : (⟨b, off, none⟩ : Addr).add j = ⟨b, off + j, none⟩ := by unfold Addr.add; split <;> simp_all
    rw [e, hc j hj, getD_at hj]
    rw [List.getElem?_map, List.getElem?_eq_getElem hj] at hu
    exact hu
  have HC := Lib.hid hcells
  have HF := h.fits
  clear hcells h h'
  go_enter Try.func21, Try.ntmps21
  go_wp2_with fail
  rw [show Sem.run Try.prog (binOp BinOp.eql 24 (Value.slice (some ⟨b, off, none⟩) xs.length c) (Value.slice none 0 0)) w = .ok (.bool false) w from rfl]
  go_wp2_with (at_builtin; refine wpList_append_own _ rfl (.tmp 5) (.tmp 6) 24 rfl w.heap.size 3 i0 (.int .i64 0) 1 8 Try.underlying24 hi hz0 hz1 hz2 rfl (by decide) _ 0 _ rfl ho.1 ⟨b, off, none⟩ xs.length c (xs.map (Value.int .i64)) rfl (by simp) HC.out (ints_oneCell _ _) (by unfold maxLen; omega) (by omega) (by simp) ?_)
  intro v' w1 hown hg _
  have HO : Own w1 w.heap.size v' xs := ⟨by simpa using hown, HF⟩
  have HB := Lib.hid (hb0.out.grown hg (by simp) (fun k hk => by simp [Value.ownBlock] at hk; omega))
  obtain ⟨A', c', rfl, _, _⟩ := HO.form
  go_wp2
  go_ret
  exact ⟨A', c', rfl, HO, HB.out⟩
end Go.Proofs.Ytpnmnkdnlajfiaa
