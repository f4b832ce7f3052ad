/- The walks of CountColors, the program's and the model's. No condition. -/
import Derived.Test.YtndoianocmekmaaChart
import Derived.Test.YtndoianocmekmaaCountMath
namespace Go.Proofs.Ytndoianocmekmaa
open Go.RowKit

set_option maxRecDepth 100000 in
set_option maxHeartbeats 1000000 in
theorem implCountColors_any (W H : Int) (A : Option Addr) (n c B : Nat) (xs : List Int) (w : World) (h : Rd w B A n c xs) (hB : B ≤ w.heap.size) :
    Calls Try.prog 45 #[chartV W H (.slice A n c)] w (OutInts w (countC W H xs) (goodB W H xs)) := by
  have hb0 := Lib.hid (show Below w.heap.size w (w.alloc (.cells #[.int .i64 W, .int .i64 H, .slice A n c] 33)) from (Below.refl _ _).alloc (Nat.le_refl _) _)
  have h' := h.alloc hB (.cells #[.int .i64 W, .int .i64 H, .slice A n c] 33)
  by_cases hg : goodB W H xs = true
  · rw [show countC W H xs = countL xs from if_pos hg, hg]
    obtain ⟨h64, hl1, hcol⟩ := good_bd hg
    obtain rfl := h.len
    obtain ⟨i0, hi, hz0, hz1, hz2⟩ := info_parts info_int
    go_enter Try.func45, Try.ntmps45
    go_wp2_with fail
    refine (implIsChart_any W H A _ c B xs _ h' (by simp; omega)).mono ?_
    rintro e w1 ⟨rfl, hb⟩
    have h1 := h'.below hb (by simp; omega)
    have HX := (Box.new w #[.int .i64 W, .int .i64 H, .slice A xs.length c] 33).all hb
    have hb1 := Lib.hid (hb0.out.trans (hb.mono (by simp)))
    have e2 := HX.2 2 _ rfl
    clear hb h h'
    rw [hg]
    go_wp2_with (at_make; refine wpList_make_full _ rfl _ _ 31 rfl w.heap.size 3 i0 (.int .i64 0) 1 Try.underlying31 hi hz0 hz1 _ _ _ _ 6 rfl rfl rfl rfl (by rw [hz2]; omega) (by unfold maxLen; omega) (by have := hb1.out.size; omega) ?_)
    intro w2 hown0 hg0
    have hz : w.heap.size < w1.heap.size := HX.1
    have e2' := hg0.cell e2 (fun q => by cases q)
    have h2 := h1.mark hg0 (fun k hk => by cases hk) (by omega)
    have hb2 := Lib.hid (hb1.out.grown hg0 (by omega) (fun k hk => by cases hk))
    clear e2 h1 hb1 hg0 HX
    go_wp2
    go_loopw [14] (fun i wr => ∃ k : Nat, k ≤ xs.length ∧ i = .int .i64 k ∧ wr.ownsRow w.heap.size 3 1 (.slice (some ⟨w1.heap.size, 0, none⟩) 6 6) 6 ((countL (xs.take k)).map (Value.int .i64)) ∧ Rd wr B A xs.length c xs ∧ Below w.heap.size w wr)
      (fun i _ => xs.length - (intOf i).toNat)
    case atStart => exact ⟨0, Nat.zero_le _, rfl, by rw [List.take_zero]; rw [toList_madeCells_one] at hown0; exact hown0, h2, hb2.out⟩
    case round =>
      obtain ⟨k, hk, rfl, hown, hr, hbl⟩ := hrel
      have HB := Lib.hid hbl
      clear hbl
      by_cases hlt : k < xs.length
      · obtain ⟨b, off, x, rfl, hbB, hc, _, _, HXx⟩ := hr.at hlt
        have hxx : 0 ≤ x ∧ x < 6 := by rw [← HXx.out, getD_at hlt]; exact hcol _ (List.getElem_mem hlt)
        obtain ⟨q, rfl⟩ := Int.eq_ofNat_of_zero_le hxx.1
        have hq : q < 6 := by omega
        have hm := howMany_le (xs.take k) q
        have hm2 : howMany (xs.take k) q ≤ 64 := by have := List.length_take_le k xs; omega
        obtain ⟨v, HV⟩ : ∃ v, Hid (howMany (xs.take k) q = v) := ⟨_, rfl⟩
        have hy : wr.cell? ⟨w1.heap.size, q, none⟩ = some (.int .i64 v) := by
          rw [hown.cellAt q (by omega), List.getElem?_map, List.getElem?_eq_getElem (by rw [countL_len]; omega), ← getD_at, countL_get _ _ hq, HV.out]; rfl
        rw [HV.out] at hm hm2
        have hf := hown.frozenAt q
        have H := hown.stored q (.int .i64 (v + 1))
        have HY := Lib.hid (count_step hlt HXx.out)
        have hs := hr.mark H.2 (fun k hk => by cases hk; omega) (by have := HB.out.size; omega)
        go_wp2
        go_roundw
        case rel => exact ⟨k + 1, by omega, by go_num, by rw [← HY.out, HV.out, List.map_set]; exact H.1, hs, HB.out.setCell (p := ⟨w1.heap.size, q, none⟩) (by show w.heap.size ≤ w1.heap.size; omega) _⟩
        case measure => simp [intOf]; omega
      · rw [List.take_of_length_le (by omega)] at hown
        have hl := countL_len xs
        have hf := countL_fits h64
        go_wp2
        go_ret2
        exact ⟨some ⟨w1.heap.size, 0, none⟩, 6, by rw [hl]; rfl, ⟨by rw [hl]; exact hown, hf⟩, HB.out⟩
  · have hg' := not_false hg
    rw [show countC W H xs = [] from if_neg hg, hg']
    go_enter Try.func45, Try.ntmps45
    go_wp2_with fail
    refine (implIsChart_any W H A n c B xs _ h' (by simp; omega)).mono ?_
    rintro e w1 ⟨rfl, hb⟩
    rw [hg']
    go_wp2_with fail
    go_ret2
    exact ⟨none, 0, rfl, Own.nil _ _, hb0.out.trans (hb.mono (by simp))⟩

set_option maxRecDepth 100000 in
set_option maxHeartbeats 1000000 in
theorem specCountColors_any (W H : Int) (A : Option Addr) (n c B : Nat) (xs : List Int) (w : World) (h : Rd w B A n c xs) (hB : B ≤ w.heap.size) :
    Calls Try.prog 60 #[chartV W H (.slice A n c)] w (OutInts w (countC W H xs) (goodB W H xs)) := by
  have hb0 := Lib.hid (show Below w.heap.size w (w.alloc (.cells #[.int .i64 W, .int .i64 H, .slice A n c] 33)) from (Below.refl _ _).alloc (Nat.le_refl _) _)
  have h' := h.alloc hB (.cells #[.int .i64 W, .int .i64 H, .slice A n c] 33)
  by_cases hg : goodB W H xs = true
  · rw [show countC W H xs = countL xs from if_pos hg, hg]
    obtain ⟨h64, hl1, hcol⟩ := good_bd hg
    obtain rfl := h.len
    obtain ⟨i0, hi, hz0, hz1, hz2⟩ := info_parts info_int
    go_enter Try.func60, Try.ntmps60
    go_wp2_with fail
    refine (l2Good_any W H A _ c B xs _ h' (by simp; omega)).mono ?_
    rintro e w1 ⟨rfl, hb⟩
    have h1 := h'.below hb (by simp; omega)
    have HX := (Box.new w #[.int .i64 W, .int .i64 H, .slice A xs.length c] 33).all hb
    have hb1 := Lib.hid (hb0.out.trans (hb.mono (by simp)))
    have e2 := HX.2 2 _ rfl
    clear hb h h'
    rw [hg]
    go_wp2_with (at_make; refine wpList_make_full _ rfl _ _ 31 rfl w.heap.size 3 i0 (.int .i64 0) 1 Try.underlying31 hi hz0 hz1 _ _ _ _ 6 rfl rfl rfl rfl (by rw [hz2]; omega) (by unfold maxLen; omega) (by have := hb1.out.size; omega) ?_)
    intro w2 hown0 hg0
    have hz : w.heap.size < w1.heap.size := HX.1
    have HX2 := HX.mark hg0 (fun k hk => by cases hk)
    have h2 := h1.mark hg0 (fun k hk => by cases hk) (by omega)
    have hb2 := Lib.hid (hb1.out.grown hg0 (by omega) (fun k hk => by cases hk))
    clear e2 h1 hb1 hg0 HX
    go_wp2
    go_loopw [5] (fun i wr => ∃ k : Nat, k ≤ xs.length ∧ i = .int .i64 k ∧ wr.ownsRow w.heap.size 3 1 (.slice (some ⟨w1.heap.size, 0, none⟩) 6 6) 6 ((countL (xs.take k)).map (Value.int .i64)) ∧ Rd wr B A xs.length c xs ∧ Box wr w.heap.size [.int .i64 W, .int .i64 H, .slice A xs.length c] ∧ Below w.heap.size w wr)
      (fun i _ => xs.length - (intOf i).toNat)
    case atStart => exact ⟨0, Nat.zero_le _, rfl, by rw [List.take_zero]; rw [toList_madeCells_one] at hown0; exact hown0, h2, HX2, hb2.out⟩
    case round =>
      obtain ⟨k, hk, rfl, hown, hr, hx, hbl⟩ := hrel
      have HB := Lib.hid hbl
      have e2 := hx.2 2 _ rfl
      clear hbl
      by_cases hlt : k < xs.length
      · obtain ⟨b, off, x, rfl, hbB, hc, _, _, HXx⟩ := hr.at hlt
        have hxx : 0 ≤ x ∧ x < 6 := by rw [← HXx.out, getD_at hlt]; exact hcol _ (List.getElem_mem hlt)
        obtain ⟨q, rfl⟩ := Int.eq_ofNat_of_zero_le hxx.1
        have hq : q < 6 := by omega
        have hm := howMany_le (xs.take k) q
        have hm2 : howMany (xs.take k) q ≤ 64 := by have := List.length_take_le k xs; omega
        obtain ⟨v, HV⟩ : ∃ v, Hid (howMany (xs.take k) q = v) := ⟨_, rfl⟩
        have hy : wr.cell? ⟨w1.heap.size, q, none⟩ = some (.int .i64 v) := by
          rw [hown.cellAt q (by omega), List.getElem?_map, List.getElem?_eq_getElem (by rw [countL_len]; omega), ← getD_at, countL_get _ _ hq, HV.out]; rfl
        rw [HV.out] at hm hm2
        have hf := hown.frozenAt q
        have H := hown.stored q (.int .i64 (v + 1))
        have HY := Lib.hid (count_step hlt HXx.out)
        have hs := hr.mark H.2 (fun k hk => by cases hk; omega) (by have := HB.out.size; omega)
        have hx' := hx.mark H.2 (fun k hk => by cases hk; omega)
        go_wp2
        go_roundw
        case rel => exact ⟨k + 1, by omega, by go_num, by rw [← HY.out, HV.out, List.map_set]; exact H.1, hs, hx', HB.out.setCell (p := ⟨w1.heap.size, q, none⟩) (by show w.heap.size ≤ w1.heap.size; omega) _⟩
        case measure => simp [intOf]; omega
      · rw [List.take_of_length_le (by omega)] at hown
        have hl := countL_len xs
        have hf := countL_fits h64
        go_wp2
        go_ret2
        exact ⟨some ⟨w1.heap.size, 0, none⟩, 6, by rw [hl]; rfl, ⟨by rw [hl]; exact hown, hf⟩, HB.out⟩
  · have hg' := not_false hg
    rw [show countC W H xs = [] from if_neg hg, hg']
    go_enter Try.func60, Try.ntmps60
    go_wp2_with fail
    refine (l2Good_any W H A n c B xs _ h' (by simp; omega)).mono ?_
    rintro e w1 ⟨rfl, hb⟩
    have hb1 := Lib.hid (hb0.out.trans (hb.mono (by simp)))
    rw [hg']
    go_wp2_with fail
    go_ret2
    exact ⟨some ⟨w1.heap.size, 0, none⟩, 0, rfl, Own.empty hb1.out.size, hb1.out.alloc hb1.out.size _⟩
end Go.Proofs.Ytndoianocmekmaa
