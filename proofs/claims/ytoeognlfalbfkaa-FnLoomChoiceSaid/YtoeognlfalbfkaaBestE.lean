/- The walks of the program's empty looms and of their comparison. No condition. -/
import Derived.Test.YtoeognlfalbfkaaBestMath
import Derived.Test.YtoeognlfalbfkaaPut5
import Derived.Test.YtoeognlfalbfkaaShelf
import Derived.RegionTactic
import Derived.BigRegion
namespace Go.Proofs.Ytoeognlfalbfkaa
open Go.RowKit

set_option maxRecDepth 100000 in
set_option maxHeartbeats 4000000 in
theorem emptyLooms_any (A : Option Addr) (n c B : Nat) (xs : List LoomR) (wide : Int) (w : World) (h : RdF loomF w B A n c xs) (hB : B ≤ w.heap.size) :
    Calls Try.prog 46 #[.slice A n c, .int .i64 wide] w fun e w' => ∃ A' c', e = .returned (.slice A' (emptyL wide xs).length c') ∧ OwnF loomF w' w.heap.size (.slice A' (emptyL wide xs).length c') (emptyL wide xs) ∧ Below w.heap.size w w' := by
  have hn := h.len_lt
  have hcap := h.cap
  obtain rfl := h.len
  by_cases hg : loomsB xs = true
  rotate_left
  · have hg' := not_false hg
    rw [show emptyL wide xs = [] from if_neg hg]
    go_enter Try.func46, Try.ntmps46
    go_wp2_with fail
    refine (implAreLooms_any A _ c B xs _ h hB).mono ?_
    rintro e w1 ⟨rfl, hb⟩
    rw [hg']
    go_wp2
    go_ret
    exact ⟨none, 0, rfl, OwnF.nil _ _ _, hb⟩
  have hn8 : xs.length ≤ 8 := (loomsB_of hg).1
  rw [show emptyL wide xs = freeL wide xs from if_pos hg]
  go_enter Try.func46, Try.ntmps46
  go_wp2_with fail
  refine (implAreLooms_any A _ c B xs _ h hB).mono ?_
  rintro e w1 ⟨rfl, hb⟩
  rw [hg]
  clear hg
  go_wp2
  go_loopw [13, 5] (fun i f wr => ∃ (k : Nat) (A' : Option Addr) (c' : Nat), k ≤ xs.length ∧ i = .int .i64 k ∧ f = .slice A' (freeL wide (xs.take k)).length c' ∧ OwnF loomF wr w.heap.size (.slice A' (freeL wide (xs.take k)).length c') (freeL wide (xs.take k)) ∧ Below w.heap.size w wr) (fun i _ _ => xs.length - (intOf i).toNat)
  case atStart => exact ⟨0, none, 0, Nat.zero_le _, rfl, rfl, OwnF.nil _ _ _, hb⟩
  case round =>
    obtain ⟨k, A1, c1, hk, rfl, rfl, ho, HB⟩ := hrel
    have hzz := HB.size
    by_cases hlt : k < xs.length
    · obtain ⟨b, off, a, rfl, hbB, ha, HX, hc0, hc1, hc2, hc3, hc4⟩ := LoomR_at (F := loomF) rfl (fun _ => rfl) (fun _ => rfl) (h.below HB hB) hlt
      obtain ⟨f0, f1, f2, f3, f4⟩ := a
      simp only at hc0 hc1 hc2 hc3 hc4
      have hfl := free_len (wide := wide) (xs := xs) (k := k)
      by_cases hs : f4 = 0
      · subst hs
        by_cases hw : wide ≤ f1
        · have HF := Lib.hid (free_yes HX.out (isFree_ok (wide := wide) rfl hw))
          have o1 := (ho.alloc (.cells #[.int .i64 f0, .int .i64 f1, .int .i64 f2, .int .i64 f3, .int .i64 0] 37)).alloc (.cells #[.int .i64 f0, .int .i64 f1, .int .i64 f2, .int .i64 f3, .int .i64 0] 37)
          have hr := RdF.lit (F := loomF) (w := wr.alloc (.cells #[.int .i64 f0, .int .i64 f1, .int .i64 f2, .int .i64 f3, .int .i64 0] 37)) (cs := #[.int .i64 f0, .int .i64 f1, .int .i64 f2, .int .i64 f3, .int .i64 0]) (a := ⟨f0, f1, f2, f3, 0⟩) rfl ha
          rw [show (wr.alloc (.cells #[.int .i64 f0, .int .i64 f1, .int .i64 f2, .int .i64 f3, .int .i64 0] 37)).heap.size = wr.heap.size + 1 by simp] at hr
          have HB2 := (HB.alloc hzz (.cells #[.int .i64 f0, .int .i64 f1, .int .i64 f2, .int .i64 f3, .int .i64 0] 37)).alloc (by simp; omega) (.cells #[.int .i64 f0, .int .i64 f1, .int .i64 f2, .int .i64 f3, .int .i64 0] 37)
          have hbd := fun q hq => (ho.bd q hq).1
          have hal : (freeL wide (xs.take k)).length + 1 ≤ 1000 := by omega
          obtain ⟨L, hL⟩ : ∃ L, freeL wide (xs.take k) = L := ⟨_, rfl⟩
          rw [hL] at o1 HF hbd hal ⊢
          clear ho hL hfl
          go_wp2_with (refine wpList_appendF loomF rfl _ (.tmp 26) (.tmp 28) 24 (.agg #[.int .i64 0, .int .i64 0, .int .i64 0, .int .i64 0, .int .i64 0]) 40 rfl Try.underlying24 info_Loom rfl (by decide) (by decide) w.heap.size _ L [⟨f0, f1, f2, f3, 0⟩] (wr.heap.size + 1) 0 1 1 _ rfl rfl o1 hr (by simp; omega) (by simp; omega) ?_)
          intro A2 c2 w2 ho2 hg2
          have HB3 := HB2.grown hg2 (by simp; omega) hbd
          go_wp2
          go_roundw
          case rel => exact ⟨k + 1, A2, c2, by omega, by go_num, by rw [HF.out, List.length_append]; rfl, by rw [HF.out, List.length_append]; exact ho2, HB3⟩
          case measure => simp [intOf]; omega
        · have HF := Lib.hid (free_no HX.out (isFree_wd (a := ⟨f0, f1, f2, f3, 0⟩) hw))
          have hw' : decide (wide ≤ f1) = false := decide_eq_false hw
          have o1 := ho.alloc (.cells #[.int .i64 f0, .int .i64 f1, .int .i64 f2, .int .i64 f3, .int .i64 0] 37)
          have HB2 := HB.alloc hzz (.cells #[.int .i64 f0, .int .i64 f1, .int .i64 f2, .int .i64 f3, .int .i64 0] 37)
          go_wp2
          go_roundw
          case rel => exact ⟨k + 1, A1, c1, by omega, by go_num, by rw [HF.out], by rw [HF.out]; exact o1, HB2⟩
          case measure => simp [intOf]; omega
      · have HF := Lib.hid (free_no HX.out (isFree_st (a := ⟨f0, f1, f2, f3, f4⟩) (wide := wide) hs))
        have hs' : (f4 == 0) = false := by simpa using hs
        have o1 := ho.alloc (.cells #[.int .i64 f0, .int .i64 f1, .int .i64 f2, .int .i64 f3, .int .i64 f4] 37)
        have HB2 := HB.alloc hzz (.cells #[.int .i64 f0, .int .i64 f1, .int .i64 f2, .int .i64 f3, .int .i64 f4] 37)
        go_wp2
        go_roundw
        case rel => exact ⟨k + 1, A1, c1, by omega, by go_num, by rw [HF.out], by rw [HF.out]; exact o1, HB2⟩
        case measure => simp [intOf]; omega
    · obtain rfl : k = xs.length := by omega
      rw [List.take_length] at ho ⊢
      go_wp2
      go_ret
      exact ⟨A1, c1, rfl, ho, HB⟩
set_option maxRecDepth 100000 in
set_option maxHeartbeats 1000000 in
theorem compareWide_any (s t : LoomR) (q : Int) (w : World) (hq : Lib.compareInt s.f1 t.f1 = q) :
    Calls Try.prog 49 #[.agg #[.int .i64 s.f0, .int .i64 s.f1, .int .i64 s.f2, .int .i64 s.f3, .int .i64 s.f4], .agg #[.int .i64 t.f0, .int .i64 t.f1, .int .i64 t.f2, .int .i64 t.f3, .int .i64 t.f4]] w (Out w (.int .i64 q)) := by
  have hb0 := Lib.hid (show Below w.heap.size w ((w.alloc (.cells #[.int .i64 s.f0, .int .i64 s.f1, .int .i64 s.f2, .int .i64 s.f3, .int .i64 s.f4] 37)).alloc (.cells #[.int .i64 t.f0, .int .i64 t.f1, .int .i64 t.f2, .int .i64 t.f3, .int .i64 t.f4] 37)) by repeat (first | assumption | exact Below.refl _ _ | refine belowN ?_ _ | refine belowD ?_ | (refine Below.setCell ?_ (by first | (simp; done) | (simp; omega) | omega) _) | (refine Below.alloc ?_ (by first | (simp; done) | (simp; omega) | omega) _)))
  go_enter Try.func49, Try.ntmps49
  go_wp2_with fail
  refine (Try.cmp_Compare_int _ _ _).mono ?_
  rintro e w1 ⟨rfl, rfl⟩
  rw [hq]
  go_wp2
  go_ret
  exact ⟨rfl, hb0.out⟩
end Go.Proofs.Ytoeognlfalbfkaa
