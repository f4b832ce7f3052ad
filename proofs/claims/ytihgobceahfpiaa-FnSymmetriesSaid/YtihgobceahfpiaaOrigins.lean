/- The walk of the program's originsOf: where a symmetry takes each knot from. Condition: a valid chart and symmetry. -/
import Derived.Test.YtihgobceahfpiaaMost
import Derived.Test.YtihgobceahfpiaaSame
namespace Go.Proofs.Ytihgobceahfpiaa
open Go.RowKit

theorem move_len {m k s : Nat} {xs : List Int} (h : (⟨m, k, xs⟩ : Pic).Ok) : ((⟨m, k, xs⟩ : Pic).move s).xs.length = m * k := by
  have h1 := (h.move s).2.2.2.2
  have h2 := (⟨m, k, xs⟩ : Pic).move_sides s
  rw [h2.1, h2.2] at h1
  rw [h1]
  split
  · rfl
  · exact Nat.mul_comm _ _
/-- The first j places hold their numbers. -/
def Placed (n j : Nat) (zs : List Int) : Prop := zs.length = n ∧ ∀ q, q < j → zs.getD q 0 = (q : Int)
theorem placed_step {n j : Nat} {zs : List Int} (h : Placed n j zs) (hj : j < n) : Placed n (j + 1) (zs.set j (j : Int)) := by
  refine ⟨by rw [List.length_set]; exact h.1, fun q hq => ?_⟩
  by_cases e : j = q
  · subst e
    rw [List.getD_eq_getElem?_getD, List.getElem?_set_self (by rw [h.1]; exact hj)]; rfl
  · rw [List.getD_eq_getElem?_getD, List.getElem?_set_ne e, ← List.getD_eq_getElem?_getD]
    exact h.2 q (by omega)
theorem placed_move {m k s : Nat} {zs : List Int} (h : Placed (m * k) (m * k) zs) (hok : (⟨m, k, zs⟩ : Pic).Ok) (hlt : ∀ p, p < m * k → org m k s p < m * k) : ((⟨m, k, zs⟩ : Pic).move s).xs = orgL (org m k s) (m * k) := by
  refine list_ext0 (by rw [move_len hok, orgL_len]) fun q hq => ?_
  rw [move_len hok] at hq
  rw [move_get hq, orgL_get hq, h.2 _ (hlt q hq)]
set_option maxRecDepth 100000 in
set_option maxHeartbeats 2000000 in
theorem originsOf_any (m k b off cc B s : Nat) (xs : List Int) (w : World) (hR : Rd w B (some ⟨b, off, none⟩) xs.length cc xs) (hB : B ≤ w.heap.size) (hok : (⟨m, k, xs⟩ : Pic).Ok) (hs7 : s ≤ 7) (hg : Ring4 xs.length (org m k s)) :
    Calls Try.prog 82 #[chartV m k (.slice (some ⟨b, off, none⟩) xs.length cc), .int .i64 s] w (OwnCopy w (orgL (org m k s) xs.length)) := by
  have hb0 := Lib.hid ((Below.refl w.heap.size w).alloc (Nat.le_refl _) (.cells #[.int .i64 m, .int .i64 k, .slice (some ⟨b, off, none⟩) xs.length cc] 26))
  have h' := Lib.hid (hR.alloc hB (.cells #[.int .i64 m, .int .i64 k, .slice (some ⟨b, off, none⟩) xs.length cc] 26))
  obtain ⟨hx64, hl1⟩ : xs.length ≤ 64 ∧ 1 ≤ xs.length := hok.len
  have hlen := Lib.hid (show xs.length = m * k from hok.2.2.2.2)
  clear hR
  go_enter Try.func82, Try.ntmps82
  go_wp2_with fail
  refine (copyChart_any m k _ _ cc B xs _ h'.out (by simp; omega) (by omega)).mono ?_
  rintro e w1 ⟨A', c', rfl, own, hb⟩
  obtain ⟨g, rfl, hg1, hg2⟩ := own.some_ (by omega)
  have HB := Lib.hid (hb0.out.trans (hb.mono (by simp)))
  have hs1 : w.heap.size + 1 ≤ w1.heap.size := by have := hb.size; simp at this; omega
  replace own := own.mono (show w.heap.size ≤ _ by simp)
  clear hb h' hg1 hb0
  go_wp2
  have own0 := own.alloc (.cells #[.int .i64 m, .int .i64 k, .slice (some ⟨g, 0, none⟩) xs.length c'] 26)
  go_loopw [12, 6] (fun s12 s6 wr => ∃ (j : Nat) (zs : List Int), j ≤ xs.length ∧ s12 = .int .i64 j ∧ Hid (Placed xs.length j zs) ∧ Own wr w.heap.size (.slice (some ⟨g, 0, none⟩) xs.length c') zs ∧
      Blk wr w1.heap.size 26 #[.int .i64 m, .int .i64 k, .slice (some ⟨g, 0, none⟩) xs.length c'] ∧ Below w.heap.size w wr)
    (fun s12 _ _ => xs.length - (intOf s12).toNat)
  case atStart => exact ⟨0, xs, Nat.zero_le _, rfl, Lib.hid ⟨rfl, fun q hq => absurd hq (Nat.not_lt_zero _)⟩, own0, Blk.new _ _ _, HB.out.alloc (by omega) _⟩
  case round =>
    obtain ⟨j, zs, hj, rfl, hpl, ho, x2, hbl⟩ := hrel
    have HB2 := Lib.hid hbl
    have hz2 := hbl.size
    have e0 := x2.cell 0
    have e1 := x2.cell 1
    have e2 := x2.cell 2
    clear hbl own own0 HB
    have hgw := (ho.bd g rfl).1
    by_cases hlt : j < xs.length
    · obtain ⟨old, HO⟩ : ∃ y, Hid (zs.getD j 0 = y) := ⟨_, rfl⟩
      have hold := own_at ho (by rw [hpl.out.1]; exact hlt) HO.out
      obtain ⟨hfz, o3, hg3⟩ := own_put ho j (j : Int) ⟨by omega, by omega⟩
      have x3 := x2.mark hg3 (row_ne ho.1 x2 (by decide))
      have HB3 := Lib.hid (HB2.out.setCell (p := ⟨g, j, none⟩) hgw (.int .i64 j))
      have HP := Lib.hid (placed_step hpl.out hlt)
      go_wp2
      go_roundw
      case rel => exact ⟨j + 1, _, by omega, by go_num, HP, o3, x3, HB3.out⟩
      case measure => simp [intOf]; omega
    · obtain rfl : j = xs.length := by omega
      have hzl := hpl.out.1
      have hzok : (⟨m, k, zs⟩ : Pic).Ok := ⟨hok.1, hok.2.1, hok.2.2.1, hok.2.2.2.1, hzl.trans hok.2.2.2.2⟩
      have HM := Lib.hid (show ((⟨m, k, zs⟩ : Pic).move s).xs = orgL (org m k s) xs.length by
        rw [hlen.out]
        exact placed_move (by rw [← hlen.out]; exact hpl.out) hzok (fun p hp => by rw [← hlen.out] at hp ⊢; exact hg.lt p hp))
      have ord := ho.rd
      rw [← hzl] at ord
      rw [← hzl] at e2
      clear hzl
      go_wp2_with fail
      refine (movedBy_any m k g 0 c' _ s zs _ ord (Nat.le_refl _) hzok hs7).mono ?_
      rintro e w4 ⟨A4, c4, rfl, own4, hb⟩
      have HB4 := Lib.hid (HB2.out.trans (hb.mono hz2))
      replace own4 := own4.mono hz2
      rw [HM.out] at own4 ⊢
      clear hb
      unfold chartV
      go_wp2
      rw [field_knots]
      go_wp2
      go_ret
      exact ⟨A4, c4, rfl, own4, HB4.out⟩
end Go.Proofs.Ytihgobceahfpiaa
