/- The walks of the program WidestFree and LoomFor. No condition. -/
import Derived.Test.YtoeognlfalbfkaaBestMax
import Derived.Test.YtoeognlfalbfkaaBestMin
namespace Go.Proofs.Ytoeognlfalbfkaa
open Go.RowKit

theorem field_id (s : LoomR) (w : World) : (Instr.field 37 (.agg #[.int .i64 s.f0, .int .i64 s.f1, .int .i64 s.f2, .int .i64 s.f3, .int .i64 s.f4]) 0).run Try.prog w = .ok (.int .i64 s.f0) w := rfl
set_option maxRecDepth 100000 in
set_option maxHeartbeats 4000000 in
theorem implWidestFree_any (A : Option Addr) (n c B : Nat) (xs : List LoomR) (w : World) (h : RdF loomF w B A n c xs) (hB : B ≤ w.heap.size) :
    Calls Try.prog 24 #[.slice A n c] w (Out w (.tuple #[.int .i64 (choose5 true 30 xs).1, .bool (choose5 true 30 xs).2])) := by
  have hw : inB 30 30 600 = true := by decide
  obtain ⟨L, hL⟩ : ∃ L, emptyL 30 xs = L := ⟨_, rfl⟩
  have hL8 : L.length ≤ 8 := by
    rw [← hL]
    unfold emptyL
    split
    · next hg => exact Nat.le_trans (List.length_filter_le _ _) (loomsB_of hg).1
    · simp
  cases hr : bestO true L with
  | none =>
    have hL0 : L = [] := by
      rcases List.eq_nil_or_concat L with h0 | ⟨l, a, h0⟩
      · exact h0
      · obtain ⟨m, hm⟩ := best_some (wd := true) L none (Or.inl (by rw [h0]; simp))
        unfold bestO at hr
        rw [hm] at hr
        cases hr
    have H := Lib.hid (show choose5 true 30 xs = (0, false) by
      unfold choose5
      split
      · next hh =>
        rw [show emptyL 30 xs = freeL 30 xs from if_pos hh.1] at hL
        rw [← hL] at hr
        rw [(pick_none hr).1, (pick_none hr).2]
      · rfl)
    rw [H.out]
    subst hL0
    clear hr
    go_enter Try.func24, Try.ntmps24
    go_wp2_with fail
    refine (emptyLooms_any A _ c B xs 30 _ h hB).mono ?_
    rintro e w1 ⟨A1, c1, rfl, ho, hb⟩
    have hz1 := hb.size
    rw [hL] at ho ⊢
    clear hL
    go_wp2
    go_ret2
    exact ⟨rfl, hb⟩
  | some m =>
    have hpos : 0 < L.length := by
      cases L with
      | nil => cases hr
      | cons => simp
    have H := Lib.hid (show choose5 true 30 xs = (m.f0, true) by
      unfold choose5
      by_cases hg : loomsB xs = true
      · rw [if_pos ⟨hg, hw⟩]
        rw [show emptyL 30 xs = freeL 30 xs from if_pos hg] at hL
        rw [← hL] at hr
        rw [(pick_some hr).1, (pick_some hr).2]
      · rw [show emptyL 30 xs = [] from if_neg hg] at hL
        rw [← hL] at hpos
        simp at hpos)
    rw [H.out]
    have HRR := Lib.hid hr
    clear hr
    go_enter Try.func24, Try.ntmps24
    go_wp2_with fail
    refine (emptyLooms_any A _ c B xs 30 _ h hB).mono ?_
    rintro e w1 ⟨A1, c1, rfl, ho, hb⟩
    have hz1 := hb.size
    rw [hL] at ho ⊢
    clear hL
    obtain ⟨g, rfl, _, _⟩ := ho.some_ hpos
    have hne : ((L.length : Int) == 0) = false := by simp; intro h0; rw [h0] at hpos; simp at hpos
    go_wp2_with fail
    refine (maxWide_any g 0 _ c1 _ L _ ho.rd (Nat.le_refl _) hpos hL8 m HRR.out).mono ?_
    rintro e w3 ⟨rfl, hb3⟩
    have HB := hb.trans (hb3.mono hz1)
    go_wp2
    rw [field_id]
    go_wp2
    go_ret2
    exact ⟨rfl, HB⟩
set_option maxRecDepth 100000 in
set_option maxHeartbeats 4000000 in
theorem implLoomFor_any (A : Option Addr) (n c B : Nat) (xs : List LoomR) (wide : Int) (w : World) (h : RdF loomF w B A n c xs) (hB : B ≤ w.heap.size) :
    Calls Try.prog 22 #[.slice A n c, .int .i64 wide] w (Out w (.tuple #[.int .i64 (choose5 false wide xs).1, .bool (choose5 false wide xs).2])) := by
  by_cases hw : inB wide 30 600 = true
  rotate_left
  · have hw' := not_false hw
    have H := Lib.hid (show choose5 false wide xs = (0, false) from if_neg fun hh => hw hh.2)
    rw [H.out]
    clear hw
    go_enter Try.func22, Try.ntmps22
    go_wp2_with fail
    refine (emptyLooms_any A _ c B xs wide _ h hB).mono ?_
    rintro e w1 ⟨A1, c1, rfl, ho, hb⟩
    have hz1 := hb.size
    go_wp2_with fail
    refine (isLoomWide_any _ _).mono ?_
    rintro e w2 ⟨rfl, rfl⟩
    rw [hw']
    go_wp2
    go_ret2
    exact ⟨rfl, hb⟩
  obtain ⟨L, hL⟩ : ∃ L, emptyL wide xs = L := ⟨_, rfl⟩
  have hL8 : L.length ≤ 8 := by
    rw [← hL]
    unfold emptyL
    split
    · next hg => exact Nat.le_trans (List.length_filter_le _ _) (loomsB_of hg).1
    · simp
  cases hr : bestO false L with
  | none =>
    have hL0 : L = [] := by
      rcases List.eq_nil_or_concat L with h0 | ⟨l, a, h0⟩
      · exact h0
      · obtain ⟨m, hm⟩ := best_some (wd := false) L none (Or.inl (by rw [h0]; simp))
        unfold bestO at hr
        rw [hm] at hr
        cases hr
    have H := Lib.hid (show choose5 false wide xs = (0, false) by
      unfold choose5
      split
      · next hh =>
        rw [show emptyL wide xs = freeL wide xs from if_pos hh.1] at hL
        rw [← hL] at hr
        rw [(pick_none hr).1, (pick_none hr).2]
      · rfl)
    rw [H.out]
    subst hL0
    clear hr
    go_enter Try.func22, Try.ntmps22
    go_wp2_with fail
    refine (emptyLooms_any A _ c B xs wide _ h hB).mono ?_
    rintro e w1 ⟨A1, c1, rfl, ho, hb⟩
    have hz1 := hb.size
    rw [hL] at ho ⊢
    clear hL
    go_wp2_with fail
    refine (isLoomWide_any _ _).mono ?_
    rintro e w2 ⟨rfl, rfl⟩
    rw [hw]
    go_wp2
    go_ret2
    exact ⟨rfl, hb⟩
  | some m =>
    have hpos : 0 < L.length := by
      cases L with
      | nil => cases hr
      | cons => simp
    have H := Lib.hid (show choose5 false wide xs = (m.f0, true) by
      unfold choose5
      by_cases hg : loomsB xs = true
      · rw [if_pos ⟨hg, hw⟩]
        rw [show emptyL wide xs = freeL wide xs from if_pos hg] at hL
        rw [← hL] at hr
        rw [(pick_some hr).1, (pick_some hr).2]
      · rw [show emptyL wide xs = [] from if_neg hg] at hL
        rw [← hL] at hpos
        simp at hpos)
    rw [H.out]
    have HRR := Lib.hid hr
    clear hr
    go_enter Try.func22, Try.ntmps22
    go_wp2_with fail
    refine (emptyLooms_any A _ c B xs wide _ h hB).mono ?_
    rintro e w1 ⟨A1, c1, rfl, ho, hb⟩
    have hz1 := hb.size
    rw [hL] at ho ⊢
    clear hL
    obtain ⟨g, rfl, _, _⟩ := ho.some_ hpos
    have hne : ((L.length : Int) == 0) = false := by simp; intro h0; rw [h0] at hpos; simp at hpos
    go_wp2_with fail
    refine (isLoomWide_any _ _).mono ?_
    rintro e w2 ⟨rfl, rfl⟩
    rw [hw]
    go_wp2_with fail
    refine (minWide_any g 0 _ c1 _ L _ ho.rd (Nat.le_refl _) hpos hL8 m HRR.out).mono ?_
    rintro e w3 ⟨rfl, hb3⟩
    have HB := hb.trans (hb3.mono hz1)
    go_wp2
    rw [field_id]
    go_wp2
    go_ret2
    exact ⟨rfl, HB⟩
end Go.Proofs.Ytoeognlfalbfkaa
