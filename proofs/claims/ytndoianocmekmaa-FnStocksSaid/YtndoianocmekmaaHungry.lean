/- The walks of l10Counts and HungriestColor, both texts. No condition. -/
import Derived.Test.YtndoianocmekmaaCount
import Derived.Test.YtndoianocmekmaaPickI
import Derived.BigQuiet
namespace Go.Proofs.Ytndoianocmekmaa
open Go.RowKit

def OneInts (w : World) (ys : List Int) (e : Ending) (w' : World) : Prop := ∃ A c, e = .returned (.slice A ys.length c) ∧ Own w' w.heap.size (.slice A ys.length c) ys ∧ Below w.heap.size w w'
def hungryX (W H : Int) (xs : List Int) : Int := if goodB W H xs = true then Lib.idxOf (countL xs) (Lib.maxOf (countL xs)) else 0
theorem ret_ib10 {a a' : Int} {b b' : Bool} (h : a = a') (h' : b = b') : Ending.returned (.tuple #[.int .i64 a, .bool b]) = .returned (.tuple #[.int .i64 a', .bool b']) := by rw [h, h']
set_option maxRecDepth 100000 in
set_option maxHeartbeats 1000000 in
theorem l10Counts_any (W H : Int) (A : Option Addr) (n c B : Nat) (xs : List Int) (w : World) (h : Rd w B A n c xs) (hB : B ≤ w.heap.size) :
    Calls Try.prog 43 #[chartV W H (.slice A n c)] w (OneInts w (countC W H xs)) := by
  have hb0 := Lib.hid (show Below w.heap.size w (w.alloc (.cells #[.int .i64 W, .int .i64 H, .slice A n c] 33)) from (Below.refl _ _).alloc (Nat.le_refl _) _)
  have h' := h.alloc hB (.cells #[.int .i64 W, .int .i64 H, .slice A n c] 33)
  go_enter Try.func43, Try.ntmps43
  go_wp2_with fail
  refine (specCountColors_any W H A n c B xs _ h' (by simp; omega)).mono ?_
  rintro e w1 ⟨A1, c1, rfl, own, hb⟩
  go_wp2
  go_ret
  exact ⟨A1, c1, rfl, own.mono (by simp), hb0.out.trans (hb.mono (by simp))⟩
set_option maxRecDepth 100000 in
set_option maxHeartbeats 1000000 in
theorem implHungriestColor_any (W H : Int) (A : Option Addr) (n c B : Nat) (xs : List Int) (w : World) (h : Rd w B A n c xs) (hB : B ≤ w.heap.size) :
    Calls Try.prog 26 #[chartV W H (.slice A n c)] w (Out w (.tuple #[.int .i64 (hungryX W H xs), .bool (goodB W H xs)])) := by
  have hb0 := Lib.hid (show Below w.heap.size w (w.alloc (.cells #[.int .i64 W, .int .i64 H, .slice A n c] 33)) from (Below.refl _ _).alloc (Nat.le_refl _) _)
  have h' := h.alloc hB (.cells #[.int .i64 W, .int .i64 H, .slice A n c] 33)
  by_cases hg : goodB W H xs = true
  · rw [show hungryX W H xs = Lib.idxOf (countL xs) (Lib.maxOf (countL xs)) from if_pos hg, hg]
    go_enter Try.func26, Try.ntmps26
    go_wp2_with fail
    refine (implCountColors_any W H A n c B xs _ h' (by simp; omega)).mono ?_
    rw [show countC W H xs = countL xs from if_pos hg, hg]
    rintro e w1 ⟨A1, c1, rfl, own, hb⟩
    have hl := countL_len xs
    have hr := own.rd
    rw [hl] at hr
    replace hb0 := Lib.hid (hb0.out.trans (hb.mono (by simp)))
    clear hb
    go_wp2_with (first | (go_at_call 50; (with_reducible refine (maxI_any _ _ _ _ _ _ hr (by omega)).mono ?_); rintro e w' ⟨rfl, rfl⟩) | (go_at_call 49; (with_reducible refine (indexI_any _ _ _ _ _ _ _ hr (by omega)).mono ?_); rintro e w' ⟨rfl, rfl⟩))
    go_ret2
    exact ⟨rfl, hb0.out⟩
  · have hg' := not_false hg
    rw [show hungryX W H xs = 0 from if_neg hg, hg']
    go_enter Try.func26, Try.ntmps26
    go_wp2_with fail
    refine (implCountColors_any W H A n c B xs _ h' (by simp; omega)).mono ?_
    rw [hg']
    rintro e w1 ⟨A1, c1, rfl, own, hb⟩
    go_wp2
    go_ret2
    exact ⟨rfl, hb0.out.trans (hb.mono (by simp))⟩
set_option maxRecDepth 100000 in
set_option maxHeartbeats 2000000 in
theorem specHungriestColor_any (W H : Int) (A : Option Addr) (n c B : Nat) (xs : List Int) (w : World) (h : Rd w B A n c xs) (hB : B ≤ w.heap.size) :
    Calls Try.prog 27 #[chartV W H (.slice A n c)] w (Out w (.tuple #[.int .i64 (hungryX W H xs), .bool (goodB W H xs)])) := by
  have hb0 := Lib.hid (show Below w.heap.size w (w.alloc (.cells #[.int .i64 W, .int .i64 H, .slice A n c] 33)) from (Below.refl _ _).alloc (Nat.le_refl _) _)
  have h' := h.alloc hB (.cells #[.int .i64 W, .int .i64 H, .slice A n c] 33)
  have HX := Blk.new w #[.int .i64 W, .int .i64 H, .slice A n c] 33
  by_cases hg : goodB W H xs = true
  · have hcc : countC W H xs = countL xs := if_pos hg
    rw [show hungryX W H xs = Lib.idxOf (countL xs) (Lib.maxOf (countL xs)) from if_pos hg, hg]
    go_enter Try.func27, Try.ntmps27
    go_wp2_with fail
    refine (l2Good_any W H A n c B xs _ h' (by simp; omega)).mono ?_
    rw [hg]
    rintro e w1 ⟨rfl, hb⟩
    replace HX := HX.all hb
    have h1 := h'.below hb (by simp; omega)
    replace hb0 := Lib.hid (hb0.out.trans (hb.mono (by simp)))
    clear hb h h'
    have e0 := HX.cell 0
    have e1 := HX.cell 1
    have e2 := HX.cell 2
    go_wp2_with fail
    refine (l10Counts_any W H A n c B xs _ h1 (by have := hb0.out.size; omega)).mono ?_
    rw [hcc]
    rintro e w2 ⟨A1, c1, rfl, own, hb⟩
    have hl := countL_len xs
    have hf := countL_fits (good_bd hg).1
    replace hb0 := Lib.hid (hb0.out.trans (hb.mono hb0.out.size))
    clear hb e0 e1 e2 HX h1
    generalize countL xs = zs at *
    have hr := own.rd
    rw [hl] at hr ⊢
    clear own
    go_wp2
    go_loopw [5, 6] (fun s5 s6 wr => ∃ b k : Nat, 1 ≤ k ∧ k ≤ 6 ∧ b < k ∧ s5 = .int .i64 b ∧ s6 = .int .i64 k ∧ Hid ((∀ i, i < k → zs.getD i 0 ≤ zs.getD b 0) ∧ ∀ i, i < b → zs.getD i 0 < zs.getD b 0) ∧ Rd wr w2.heap.size A1 6 c1 zs ∧ Hid (Below w.heap.size w wr)) (fun _ s6 _ => 6 - (intOf s6).toNat)
    case atStart => exact ⟨0, 1, by omega, by omega, by omega, rfl, rfl, Lib.hid ⟨fun i hi => by rw [show i = 0 by omega]; exact Int.le_refl _, fun i hi => by omega⟩, hr, hb0⟩
    case round =>
      clear hr hb0
      obtain ⟨b, k, hk1, hk, hbk, rfl, rfl, HK, hr, hb0⟩ := hrel
      by_cases hk6 : k < 6
      · obtain ⟨bb, off, x, rfl, hbb, hcx, _, _, HXx⟩ := hr.at hk6
        obtain ⟨bb', off', y, he, hbb', hcy, _, _, HYy⟩ := hr.at (show b < 6 by omega)
        cases he
        by_cases hxy : y < x
        · have H2 := Lib.hid (show (∀ i, i < k + 1 → zs.getD i 0 ≤ zs.getD k 0) ∧ ∀ i, i < k → zs.getD i 0 < zs.getD k 0 by
            have e1 := HXx.out
            have e2 := HYy.out
            refine ⟨fun i hi => ?_, fun i hi => by have := HK.out.1 i hi; omega⟩
            by_cases hik : i = k
            · subst hik; exact Int.le_refl _
            · have := HK.out.1 i (by omega); omega)
          clear HK HXx HYy
          go_wp2
          go_quiet (fail)
          go_wp2
          go_roundw
          case rel => exact ⟨k, k + 1, by omega, by omega, by omega, rfl, by go_num, H2, hr.drewN _, Lib.hid (belowN hb0.out _)⟩
          case measure => simp [intOf]; omega
        · have H2 := Lib.hid (show (∀ i, i < k + 1 → zs.getD i 0 ≤ zs.getD b 0) ∧ ∀ i, i < b → zs.getD i 0 < zs.getD b 0 by
            have e1 := HXx.out
            have e2 := HYy.out
            refine ⟨fun i hi => ?_, HK.out.2⟩
            by_cases hik : i = k
            · subst hik; omega
            · exact HK.out.1 i (by omega))
          clear HK HXx HYy
          go_wp2
          go_quiet (fail)
          go_wp2
          go_roundw
          case rel => exact ⟨b, k + 1, by omega, by omega, by omega, rfl, by go_num, H2, hr.drewN _, Lib.hid (belowN hb0.out _)⟩
          case measure => simp [intOf]; omega
      · have HF := Lib.hid (firstMax (l := zs) (b := b) (by omega) (fun i hi => HK.out.1 i (by omega)) HK.out.2)
        clear HK
        go_wp2
        go_ret2
        exact ⟨ret_ib10 HF.out.symm rfl, hb0.out⟩
  · have hg' := not_false hg
    rw [show hungryX W H xs = 0 from if_neg hg, hg']
    go_enter Try.func27, Try.ntmps27
    go_wp2_with fail
    refine (l2Good_any W H A n c B xs _ h' (by simp; omega)).mono ?_
    rw [hg']
    rintro e w1 ⟨rfl, hb⟩
    go_wp2
    go_ret2
    exact ⟨rfl, hb0.out.trans (hb.mono (by simp))⟩
end Go.Proofs.Ytndoianocmekmaa
