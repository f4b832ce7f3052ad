/- The walk of the law FnExactBestDayOf. No condition. -/
import Derived.Test.YthaghophlfbobaaBestDay
import Derived.Test.YthaghophlfbobaaWorkSheetHelp
namespace Go.Proofs.Ythaghophlfbobaa.bestDayOf
open Go.RowKit

set_option maxRecDepth 100000 in
set_option maxHeartbeats 2000000 in
theorem core (w : World) (A0 : Option Addr) (n0 c0 : Nat) (xs0 : List WorkSheetR) (a1 : Int) (h0 : RdF workSheetL w w.heap.size A0 n0 c0 xs0) (hs : (n0) ≤ 1048576) (r0 : Int) (r1 : Bool)  (hspec : Hid (∀ (w : World) (A0 : Option Addr) (c0 : Nat), RdF workSheetF w w.heap.size A0 xs0.length c0 xs0 → Calls Try.prog 36 #[.slice A0 xs0.length c0, .int .i64 a1] w (Out w (.tuple #[.int .i64 r0, .bool r1])))) (himpl : Hid (∀ (w : World) (A0 : Option Addr) (c0 : Nat), RdF workSheetF w w.heap.size A0 xs0.length c0 xs0 → Calls Try.prog 37 #[.slice A0 xs0.length c0, .int .i64 a1] w (Out w (.tuple #[.int .i64 r0, .bool r1])))) :
    Calls Try.prog 10 #[.slice A0 n0 c0, .int .i64 a1] w fun e w' => e = .returned (.bool true) ∧ Below w.heap.size w w' := by
  have q0 : 0 ≤ ((n0 : Nat) : Int) := by omega
  have l0 := h0.len; subst l0
  have HB : Below w.heap.size w w := Below.refl _ _
  have R0 := h0
  clear h0
  go_enter Try.func10, Try.ntmps10
  go_wp2_with fail
  refine (szWorkSheetS_yes A0 xs0.length c0 _ _ (by omega) (by omega)).mono ?_
  rintro e w1 ⟨rfl, hb⟩
  replace R0 := R0.below hb HB.size
  replace HB := HB.trans (hb.mono HB.size)
  clear hb
  go_wp2_with fail
  refine (toWorkSheetS_any A0 xs0.length c0 _ xs0 _ R0 HB.size (by omega)).mono ?_
  rintro e w2 ⟨g2, rfl, own, hb⟩
  replace R0 := R0.below hb HB.size
  replace own := own.mono HB.size
  replace HB := HB.trans (hb.mono HB.size)
  clear hb
  have O2 := own; clear own
  go_wp2_with fail
  refine (hspec.out _ _ _ O2.rd).mono ?_
  rintro e w3 ⟨rfl, hb⟩
  replace R0 := R0.below hb HB.size
  replace O2 := O2.all hb
  replace HB := HB.trans (hb.mono HB.size)
  clear hb
  clear O2
  go_wp2_with fail
  refine (toWorkSheetS_any A0 xs0.length c0 _ xs0 _ R0 HB.size (by omega)).mono ?_
  rintro e w4 ⟨g4, rfl, own, hb⟩
  replace R0 := R0.below hb HB.size
  replace own := own.mono HB.size
  replace HB := HB.trans (hb.mono HB.size)
  clear hb
  have O4 := own; clear own
  go_wp2_with fail
  refine (himpl.out _ _ _ O4.rd).mono ?_
  rintro e w5 ⟨rfl, hb⟩
  replace R0 := R0.below hb HB.size
  replace O4 := O4.all hb
  replace HB := HB.trans (hb.mono HB.size)
  clear hb
  go_wp2_with fail
  refine (toWorkSheetS_any A0 xs0.length c0 _ xs0 _ R0 HB.size (by omega)).mono ?_
  rintro e w6 ⟨g6, rfl, own, hb⟩
  replace R0 := R0.below hb HB.size
  replace O4 := O4.all hb
  replace own := own.mono HB.size
  replace HB := HB.trans (hb.mono HB.size)
  clear hb
  have O6 := own; clear own
  go_wp2_with fail
  refine (eqWorkSheetS_same _ _ _ _ _ _ _ _ xs0 _ O4.rd O6.rd (Nat.le_refl _) (Nat.le_refl _)).mono ?_
  rintro e w7 ⟨rfl, hb⟩
  replace R0 := R0.below hb HB.size
  replace O4 := O4.all hb
  replace O6 := O6.all hb
  replace HB := HB.trans (hb.mono HB.size)
  clear hb
  clear O6
  go_wp2_with fail
  go_ret
  exact ⟨rfl, HB⟩

set_option maxRecDepth 100000 in
set_option maxHeartbeats 2000000 in
theorem big (w : World) (A0 : Option Addr) (n0 c0 : Nat) (xs0 : List WorkSheetR) (a1 : Int) (h0 : RdF workSheetL w w.heap.size A0 n0 c0 xs0) (hs : ¬ (n0) ≤ 1048576) : Calls Try.prog 10 #[.slice A0 n0 c0, .int .i64 a1] w fun e w' => e = .returned (.bool true) ∧ Below w.heap.size w w' := by
  have len0 := h0.len_lt
  have l0 := h0.len; subst l0
  have q0 : 0 ≤ ((xs0.length : Nat) : Int) := by omega
  have HB : Below w.heap.size w w := Below.refl _ _
  have R0 := h0
  go_enter Try.func10, Try.ntmps10
  go_wp2_with fail
  refine (szWorkSheetS_no A0 xs0.length c0 _ _ (by omega) (by omega) (by omega) (by omega)).mono ?_
  rintro e w1 ⟨rfl, hb⟩
  replace R0 := R0.below hb HB.size
  replace HB := HB.trans (hb.mono HB.size)
  clear hb
  go_wp2_with fail
  go_ret
  exact ⟨rfl, HB⟩
theorem walk (w : World) (A0 : Option Addr) (n0 c0 : Nat) (xs0 : List WorkSheetR) (a1 : Int) (h0 : RdF workSheetL w w.heap.size A0 n0 c0 xs0) (_l1 : -9223372036854775808 ≤ a1) (_u1 : a1 ≤ 9223372036854775807) : Calls Try.prog 10 #[.slice A0 n0 c0, .int .i64 a1] w fun e w' => e = .returned (.bool true) ∧ Below w.heap.size w w' := by
  have l0 := h0.len
  by_cases hs : (n0) ≤ 1048576
  · exact core w A0 n0 c0 xs0 a1 h0 hs _ _  (Lib.hid (fun w A0 c0 h0 => specBestDayOf_any A0 _ c0 _ xs0 a1 w h0 (Nat.le_refl _))) (Lib.hid (fun w A0 c0 h0 => implBestDayOf_any A0 _ c0 _ xs0 a1 w h0 (Nat.le_refl _)))
  · exact big w A0 n0 c0 xs0 a1 h0 hs
end Go.Proofs.Ythaghophlfbobaa.bestDayOf
