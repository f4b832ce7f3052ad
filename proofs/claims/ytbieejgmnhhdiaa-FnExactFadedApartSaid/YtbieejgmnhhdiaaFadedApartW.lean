/- The walk of the law FnExactFadedApart. No condition. -/
import Derived.Test.YtbieejgmnhhdiaaApartS
import Derived.Test.YtbieejgmnhhdiaaOwn2Mark
import Derived.Test.YtbieejgmnhhdiaaShadeHelp
namespace Go.Proofs.Ytbieejgmnhhdiaa.fadedApart
open Go.RowKit

set_option maxRecDepth 100000 in
set_option maxHeartbeats 2000000 in
theorem core (w : World) (A0 : Option Addr) (n0 c0 : Nat) (xs0 : List ShadeR) (a1 a2 : Int) (h0 : RdF shadeL w w.heap.size A0 n0 c0 xs0) (hs : (n0 + bulkShade xs0) ≤ 1048576) (ys : List (List Int)) (r1 : Bool) (hl1 : ys.length ≤ 100000) (hl2 : (ys.map List.length).sum ≤ 100000) (hspec : Hid (∀ (w : World) (A0 : Option Addr) (c0 : Nat), RdF shadeF w w.heap.size A0 xs0.length c0 xs0 → Calls Try.prog 7 #[.slice A0 xs0.length c0, .int .i64 a1, .int .i64 a2] w (OutIntss w ys r1))) (himpl : Hid (∀ (w : World) (A0 : Option Addr) (c0 : Nat), RdF shadeF w w.heap.size A0 xs0.length c0 xs0 → Calls Try.prog 9 #[.slice A0 xs0.length c0, .int .i64 a1, .int .i64 a2] w (OutIntss w ys r1))) :
    Calls Try.prog 3 #[.slice A0 n0 c0, .int .i64 a1, .int .i64 a2] w fun e w' => e = .returned (.bool true) ∧ Below w.heap.size w w' := by
  have q0 : 0 ≤ ((n0 + bulkShade xs0 : Nat) : Int) := by omega
  have l0 := h0.len; subst l0
  have HB : Below w.heap.size w w := Below.refl _ _
  have R0 := h0
  clear h0
  obtain ⟨LS, hLS⟩ : ∃ LS, ys.map List.length = LS := ⟨_, rfl⟩
  have HLS := Lib.hid hLS
  rw [hLS] at hl2
  have hLl : LS.length ≤ 1048576 := by rw [← hLS, List.length_map]; omega
  clear hLS
  obtain ⟨SUM, hSUM⟩ : ∃ SUM, LS.sum = SUM := ⟨_, rfl⟩
  have HSUM := Lib.hid hSUM
  rw [hSUM] at hl2
  clear hSUM
  have hz0 : w.heap.size ≤ w.heap.size := Nat.le_refl _
  go_enter Try.func3, Try.ntmps3
  go_wp2_with fail
  refine (szShadeS_yes A0 xs0.length c0 _ xs0 _ _ R0 HB.size (by omega) (by omega)).mono ?_
  rintro e w1 ⟨rfl, hb⟩
  have hz1 : w.heap.size ≤ w1.heap.size := hb.size
  replace R0 := R0.below hb HB.size
  replace HB := HB.trans (hb.mono HB.size)
  clear hb
  go_wp2_with fail
  refine (toShadeS_any A0 xs0.length c0 _ xs0 _ R0 HB.size (by omega)).mono ?_
  rintro e w2 ⟨g2, rfl, own, hb⟩
  have ObO2 : Hid (∀ j, (Value.slice (some ⟨g2, 0, none⟩) xs0.length xs0.length).ownBlock = some j → w1.heap.size ≤ j ∧ j < w2.heap.size) := Lib.hid fun j hj => own.bd j hj
  have hz2 : w1.heap.size ≤ w2.heap.size := hb.size
  replace R0 := R0.below hb HB.size
  replace HB := HB.trans (hb.mono HB.size)
  clear hb
  have O2 := own; clear own
  go_wp2_with fail
  refine (hspec.out _ _ _ O2.rd).mono ?_
  rintro e w3 ⟨A_3, c_3, rfl, O3, hb⟩
  have hz3 : w2.heap.size ≤ w3.heap.size := hb.size
  replace R0 := R0.below hb HB.size
  replace HB := HB.trans (hb.mono HB.size)
  clear hb
  have B3 : Below w3.heap.size w3 w3 := Below.refl _ _
  clear O2 ObO2
  go_wp2_with fail
  refine (toShadeS_any A0 xs0.length c0 _ xs0 _ R0 HB.size (by omega)).mono ?_
  rintro e w4 ⟨g4, rfl, own, hb⟩
  have ObO4 : Hid (∀ j, (Value.slice (some ⟨g4, 0, none⟩) xs0.length xs0.length).ownBlock = some j → w3.heap.size ≤ j ∧ j < w4.heap.size) := Lib.hid fun j hj => own.bd j hj
  have hz4 : w3.heap.size ≤ w4.heap.size := hb.size
  replace R0 := R0.below hb HB.size
  replace B3 := B3.trans (hb.mono B3.size)
  replace HB := HB.trans (hb.mono HB.size)
  clear hb
  have O4 := own; clear own
  go_wp2_with fail
  refine (himpl.out _ _ _ O4.rd).mono ?_
  rintro e w5 ⟨A_5, c_5, rfl, O5, hb⟩
  have hz5 : w4.heap.size ≤ w5.heap.size := hb.size
  replace R0 := R0.below hb HB.size
  replace O4 := O4.all hb
  replace B3 := B3.trans (hb.mono B3.size)
  replace HB := HB.trans (hb.mono HB.size)
  clear hb
  go_wp2_with fail
  refine (eqIntSS_same _ _ _ _ _ _ _ _ ys _ O5 (O3.all B3) (by omega)).mono ?_
  rintro e w6 ⟨rfl, hb⟩
  have hz6 : w5.heap.size ≤ w6.heap.size := hb.size
  replace R0 := R0.below hb HB.size
  replace O4 := O4.all hb
  replace B3 := B3.trans (hb.mono B3.size)
  replace O5 := O5.all hb
  replace HB := HB.trans (hb.mono HB.size)
  clear hb
  go_wp2_with fail
  refine (toShadeS_any A0 xs0.length c0 _ xs0 _ R0 HB.size (by omega)).mono ?_
  rintro e w7 ⟨g7, rfl, own, hb⟩
  have ObO7 : Hid (∀ j, (Value.slice (some ⟨g7, 0, none⟩) xs0.length xs0.length).ownBlock = some j → w6.heap.size ≤ j ∧ j < w7.heap.size) := Lib.hid fun j hj => own.bd j hj
  have hz7 : w6.heap.size ≤ w7.heap.size := hb.size
  replace R0 := R0.below hb HB.size
  replace O4 := O4.all hb
  replace B3 := B3.trans (hb.mono B3.size)
  replace O5 := O5.all hb
  replace HB := HB.trans (hb.mono HB.size)
  clear hb
  have O7 := own; clear own
  go_wp2_with fail
  refine (eqShadeS_same _ _ _ _ _ _ _ _ xs0 _ O4.rd O7.rd (Nat.le_refl _) (Nat.le_refl _)).mono ?_
  rintro e w8 ⟨rfl, hb⟩
  have hz8 : w7.heap.size ≤ w8.heap.size := hb.size
  replace R0 := R0.below hb HB.size
  replace O4 := O4.all hb
  replace B3 := B3.trans (hb.mono B3.size)
  replace O5 := O5.all hb
  replace HB := HB.trans (hb.mono HB.size)
  clear hb
  clear O7 ObO7
  go_wp2_with fail
  refine (markShadeS_any _ _ _ _ _ O4 (by omega) (by omega) (by omega)).mono ?_
  rintro e w9 ⟨rfl, own, hg⟩
  have hz9 : w8.heap.size ≤ w9.heap.size := hg.size
  replace R0 := R0.mark hg (fun j hj => by have := (ObO4.out j hj).1; omega) HB.size
  replace B3 := B3.grown hg B3.size (fun j hj => (ObO4.out j hj).1)
  replace O5 := O5.mark hg (fun j hj => (ObO4.out j hj).2)
  replace HB := HB.grown hg HB.size (fun j hj => by have := (ObO4.out j hj).1; omega)
  clear O4 ObO4 own hg
  go_wp2_with fail
  refine (eqIntSS_same _ _ _ _ _ _ _ _ ys _ O5 (O3.all B3) (by omega)).mono ?_
  rintro e w10 ⟨rfl, hb⟩
  have hz10 : w9.heap.size ≤ w10.heap.size := hb.size
  replace R0 := R0.below hb HB.size
  replace B3 := B3.trans (hb.mono B3.size)
  replace O5 := O5.all hb
  replace HB := HB.trans (hb.mono HB.size)
  clear hb
  go_wp2_with fail
  refine (markIntSS_any _ _ _ _ ys _ _ O5 (by omega) (by omega) (by rw [HLS.out, HSUM.out]; omega) (by omega) (by omega)).mono ?_
  rintro e w11 ⟨rfl, own, hb⟩
  have hz11 : w10.heap.size ≤ w11.heap.size := hb.size
  replace R0 := R0.below hb (by omega)
  replace B3 := B3.trans (hb.mono (by omega))
  replace HB := HB.trans (hb.mono (by omega))
  rw [HLS.out] at own
  replace O5 := own
  clear hb own
  rw [HLS.out, HSUM.out]
  have hml : ys.length = LS.length := by rw [← HLS.out, List.length_map]
  clear hml
  go_wp2_with fail
  refine (heldIntSS_any _ _ _ _ LS 1 _ O5 hLl (by rw [HSUM.out]; omega) (by omega) (by omega)).mono ?_
  rintro e w12 ⟨rfl, hb⟩
  have hz12 : w11.heap.size ≤ w12.heap.size := hb.size
  replace R0 := R0.below hb HB.size
  replace B3 := B3.trans (hb.mono B3.size)
  replace O5 := O5.all hb
  replace HB := HB.trans (hb.mono HB.size)
  clear hb
  rw [HSUM.out]
  go_wp2_with fail
  refine (toShadeS_any A0 xs0.length c0 _ xs0 _ R0 HB.size (by omega)).mono ?_
  rintro e w13 ⟨g13, rfl, own, hb⟩
  have ObO13 : Hid (∀ j, (Value.slice (some ⟨g13, 0, none⟩) xs0.length xs0.length).ownBlock = some j → w12.heap.size ≤ j ∧ j < w13.heap.size) := Lib.hid fun j hj => own.bd j hj
  have hz13 : w12.heap.size ≤ w13.heap.size := hb.size
  replace R0 := R0.below hb HB.size
  replace B3 := B3.trans (hb.mono B3.size)
  replace O5 := O5.all hb
  replace HB := HB.trans (hb.mono HB.size)
  clear hb
  have O13 := own; clear own
  go_wp2_with fail
  refine (himpl.out _ _ _ O13.rd).mono ?_
  rintro e w14 ⟨A_14, c_14, rfl, O14, hb⟩
  have hz14 : w13.heap.size ≤ w14.heap.size := hb.size
  replace R0 := R0.below hb HB.size
  replace B3 := B3.trans (hb.mono B3.size)
  replace O5 := O5.all hb
  replace HB := HB.trans (hb.mono HB.size)
  clear hb
  clear O13 ObO13
  go_wp2_with fail
  refine (eqIntSS_same _ _ _ _ _ _ _ _ ys _ O14 (O3.all B3) (by omega)).mono ?_
  rintro e w15 ⟨rfl, hb⟩
  have hz15 : w14.heap.size ≤ w15.heap.size := hb.size
  replace R0 := R0.below hb HB.size
  replace B3 := B3.trans (hb.mono B3.size)
  replace O5 := O5.all hb
  replace HB := HB.trans (hb.mono HB.size)
  clear hb
  clear O14
  go_wp2_with fail
  refine (heldIntSS_any _ _ _ _ LS 1 _ O5 hLl (by rw [HSUM.out]; omega) (by omega) (by omega)).mono ?_
  rintro e w16 ⟨rfl, hb⟩
  have hz16 : w15.heap.size ≤ w16.heap.size := hb.size
  replace R0 := R0.below hb HB.size
  replace B3 := B3.trans (hb.mono B3.size)
  replace O5 := O5.all hb
  replace HB := HB.trans (hb.mono HB.size)
  clear hb
  rw [HSUM.out]
  go_wp2_with fail
  go_ret
  exact ⟨rfl, HB⟩

set_option maxRecDepth 100000 in
set_option maxHeartbeats 2000000 in
theorem big (w : World) (A0 : Option Addr) (n0 c0 : Nat) (xs0 : List ShadeR) (a1 a2 : Int) (h0 : RdF shadeL w w.heap.size A0 n0 c0 xs0) (hs : ¬ (n0 + bulkShade xs0) ≤ 1048576) : Calls Try.prog 3 #[.slice A0 n0 c0, .int .i64 a1, .int .i64 a2] w fun e w' => e = .returned (.bool true) ∧ Below w.heap.size w w' := by
  have len0 := h0.len_lt
  have l0 := h0.len; subst l0
  have q0 : 0 ≤ ((xs0.length + bulkShade xs0 : Nat) : Int) := by omega
  have HB : Below w.heap.size w w := Below.refl _ _
  have R0 := h0
  go_enter Try.func3, Try.ntmps3
  go_wp2_with fail
  refine (szShadeS_no A0 xs0.length c0 _ xs0 _ _ R0 HB.size (by omega) (by omega) (by omega)).mono ?_
  rintro e w1 ⟨rfl, hb⟩
  replace R0 := R0.below hb HB.size
  replace HB := HB.trans (hb.mono HB.size)
  clear hb
  go_wp2_with fail
  go_ret
  exact ⟨rfl, HB⟩

theorem walk (w : World) (A0 : Option Addr) (n0 c0 : Nat) (xs0 : List ShadeR) (a1 a2 : Int) (h0 : RdF shadeL w w.heap.size A0 n0 c0 xs0) (_l1 : -9223372036854775808 ≤ a1) (_u1 : a1 ≤ 9223372036854775807) (_l2 : -9223372036854775808 ≤ a2) (_u2 : a2 ≤ 9223372036854775807) : Calls Try.prog 3 #[.slice A0 n0 c0, .int .i64 a1, .int .i64 a2] w fun e w' => e = .returned (.bool true) ∧ Below w.heap.size w w' := by
  by_cases hs : (n0 + bulkShade xs0) ≤ 1048576
  · exact core w A0 n0 c0 xs0 a1 a2 h0 hs (apartX xs0 a1 a2) (apartOk xs0 a1 a2) (apartX_len xs0 a1 a2).1 (apartX_len xs0 a1 a2).2 (Lib.hid fun w A0 c0 h0 => specFadedApart_any A0 _ c0 _ xs0 a1 a2 w h0 (Nat.le_refl _)) (Lib.hid fun w A0 c0 h0 => implFadedApart_any A0 _ c0 _ xs0 a1 a2 w h0 (Nat.le_refl _))
  · exact big w A0 n0 c0 xs0 a1 a2 h0 hs
end Go.Proofs.Ytbieejgmnhhdiaa.fadedApart
