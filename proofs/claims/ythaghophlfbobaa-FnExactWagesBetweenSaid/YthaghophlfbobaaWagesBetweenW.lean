/- The walk of the law FnExactWagesBetween. No condition. -/
import Derived.Test.YthaghophlfbobaaWages
import Derived.Test.YthaghophlfbobaaWagesS
import Derived.Test.YthaghophlfbobaaWorkSheetHelp
import Derived.Test.YthaghophlfbobaaRatesHelp
namespace Go.Proofs.Ythaghophlfbobaa.wagesBetween
open Go.RowKit

set_option maxRecDepth 100000 in
set_option maxHeartbeats 2000000 in
theorem core (w : World) (s0 : RatesR) (A1 : Option Addr) (n1 c1 : Nat) (xs1 : List WorkSheetR) (a2 : Int) (a3 : Int) (a4 : Int) (h1 : RdF workSheetL w w.heap.size A1 n1 c1 xs1) (hs : (n1) ≤ 1048576) (r0 : Int) (r1 : Bool)  (hspec : Hid (∀ (w : World) (A1 : Option Addr) (c1 : Nat), RdF workSheetF w w.heap.size A1 xs1.length c1 xs1 → Calls Try.prog 26 #[.agg #[.int .i64 s0.f0, .int .i64 s0.f1, .int .i64 s0.f2, .int .i64 s0.f3, .int .i64 s0.f4], .slice A1 xs1.length c1, .int .i64 a2, .int .i64 a3, .int .i64 a4] w (Out w (.tuple #[.int .i64 r0, .bool r1])))) (himpl : Hid (∀ (w : World) (A1 : Option Addr) (c1 : Nat), RdF workSheetF w w.heap.size A1 xs1.length c1 xs1 → Calls Try.prog 27 #[.agg #[.int .i64 s0.f0, .int .i64 s0.f1, .int .i64 s0.f2, .int .i64 s0.f3, .int .i64 s0.f4], .slice A1 xs1.length c1, .int .i64 a2, .int .i64 a3, .int .i64 a4] w (Out w (.tuple #[.int .i64 r0, .bool r1])))) :
    Calls Try.prog 7 #[.agg #[.int .i64 s0.f0, .int .i64 s0.f1, .int .i64 s0.f2, .int .i64 s0.f3, .int .i64 s0.f4], .slice A1 n1 c1, .int .i64 a2, .int .i64 a3, .int .i64 a4] w fun e w' => e = .returned (.bool true) ∧ Below w.heap.size w w' := by
  have q1 : 0 ≤ ((n1 : Nat) : Int) := by omega
  have l1 := h1.len; subst l1
  have y0 : Blk (w.alloc (.cells #[.int .i64 s0.f0, .int .i64 s0.f1, .int .i64 s0.f2, .int .i64 s0.f3, .int .i64 s0.f4] 36)) (w.heap.size) 36 #[.int .i64 s0.f0, .int .i64 s0.f1, .int .i64 s0.f2, .int .i64 s0.f3, .int .i64 s0.f4] := (Blk.new w #[.int .i64 s0.f0, .int .i64 s0.f1, .int .i64 s0.f2, .int .i64 s0.f3, .int .i64 s0.f4] 36).at_ (by simp)
  have HB : Below w.heap.size w (w.alloc (.cells #[.int .i64 s0.f0, .int .i64 s0.f1, .int .i64 s0.f2, .int .i64 s0.f3, .int .i64 s0.f4] 36)) := (Below.refl _ _).alloc (by first | (simp; done) | (simp; omega)) _
  have R1 := (h1).alloc (by first | (simp; done) | (simp; omega)) (.cells #[.int .i64 s0.f0, .int .i64 s0.f1, .int .i64 s0.f2, .int .i64 s0.f3, .int .i64 s0.f4] 36)
  clear h1
  go_enter Try.func7, Try.ntmps7
  have ey00 := y0.cell 0
  have ey01 := y0.cell 1
  have ey02 := y0.cell 2
  have ey03 := y0.cell 3
  have ey04 := y0.cell 4
  have zy0 := y0.lt
  go_wp2_with fail
  refine (szWorkSheetS_yes A1 xs1.length c1 _ _ (by omega) (by omega)).mono ?_
  rintro e w1 ⟨rfl, hb⟩
  clear ey00 ey01 ey02 ey03 ey04 zy0
  replace y0 := y0.all hb
  replace R1 := R1.below hb HB.size
  replace HB := HB.trans (hb.mono HB.size)
  clear hb
  have ey00 := y0.cell 0
  have ey01 := y0.cell 1
  have ey02 := y0.cell 2
  have ey03 := y0.cell 3
  have ey04 := y0.cell 4
  have zy0 := y0.lt
  go_wp2_with fail
  refine (toRates_any s0 _).mono ?_
  rintro e w2 ⟨rfl, hb⟩
  clear ey00 ey01 ey02 ey03 ey04 zy0
  replace y0 := y0.all hb
  replace R1 := R1.below hb HB.size
  replace HB := HB.trans (hb.mono HB.size)
  clear hb
  have ey00 := y0.cell 0
  have ey01 := y0.cell 1
  have ey02 := y0.cell 2
  have ey03 := y0.cell 3
  have ey04 := y0.cell 4
  have zy0 := y0.lt
  go_wp2_with fail
  refine (toWorkSheetS_any A1 xs1.length c1 _ xs1 _ R1 HB.size (by omega)).mono ?_
  rintro e w3 ⟨g3, rfl, own, hb⟩
  clear ey00 ey01 ey02 ey03 ey04 zy0
  replace y0 := y0.all hb
  replace R1 := R1.below hb HB.size
  replace own := own.mono HB.size
  replace HB := HB.trans (hb.mono HB.size)
  clear hb
  have O3 := own; clear own
  have ey00 := y0.cell 0
  have ey01 := y0.cell 1
  have ey02 := y0.cell 2
  have ey03 := y0.cell 3
  have ey04 := y0.cell 4
  have zy0 := y0.lt
  go_wp2_with fail
  refine (hspec.out _ _ _ O3.rd).mono ?_
  rintro e w4 ⟨rfl, hb⟩
  clear ey00 ey01 ey02 ey03 ey04 zy0
  replace y0 := y0.all hb
  replace R1 := R1.below hb HB.size
  replace O3 := O3.all hb
  replace HB := HB.trans (hb.mono HB.size)
  clear hb
  clear O3
  have ey00 := y0.cell 0
  have ey01 := y0.cell 1
  have ey02 := y0.cell 2
  have ey03 := y0.cell 3
  have ey04 := y0.cell 4
  have zy0 := y0.lt
  go_wp2_with fail
  refine (toWorkSheetS_any A1 xs1.length c1 _ xs1 _ R1 HB.size (by omega)).mono ?_
  rintro e w5 ⟨g5, rfl, own, hb⟩
  clear ey00 ey01 ey02 ey03 ey04 zy0
  replace y0 := y0.all hb
  replace R1 := R1.below hb HB.size
  replace own := own.mono HB.size
  replace HB := HB.trans (hb.mono HB.size)
  clear hb
  have O5 := own; clear own
  have ey00 := y0.cell 0
  have ey01 := y0.cell 1
  have ey02 := y0.cell 2
  have ey03 := y0.cell 3
  have ey04 := y0.cell 4
  have zy0 := y0.lt
  go_wp2_with fail
  refine (toRates_any s0 _).mono ?_
  rintro e w6 ⟨rfl, hb⟩
  clear ey00 ey01 ey02 ey03 ey04 zy0
  replace y0 := y0.all hb
  replace R1 := R1.below hb HB.size
  replace O5 := O5.all hb
  replace HB := HB.trans (hb.mono HB.size)
  clear hb
  have ey00 := y0.cell 0
  have ey01 := y0.cell 1
  have ey02 := y0.cell 2
  have ey03 := y0.cell 3
  have ey04 := y0.cell 4
  have zy0 := y0.lt
  go_wp2_with fail
  refine (himpl.out _ _ _ O5.rd).mono ?_
  rintro e w7 ⟨rfl, hb⟩
  clear ey00 ey01 ey02 ey03 ey04 zy0
  replace y0 := y0.all hb
  replace R1 := R1.below hb HB.size
  replace O5 := O5.all hb
  replace HB := HB.trans (hb.mono HB.size)
  clear hb
  have ey00 := y0.cell 0
  have ey01 := y0.cell 1
  have ey02 := y0.cell 2
  have ey03 := y0.cell 3
  have ey04 := y0.cell 4
  have zy0 := y0.lt
  go_wp2_with fail
  refine (toWorkSheetS_any A1 xs1.length c1 _ xs1 _ R1 HB.size (by omega)).mono ?_
  rintro e w8 ⟨g8, rfl, own, hb⟩
  clear ey00 ey01 ey02 ey03 ey04 zy0
  replace y0 := y0.all hb
  replace R1 := R1.below hb HB.size
  replace O5 := O5.all hb
  replace own := own.mono HB.size
  replace HB := HB.trans (hb.mono HB.size)
  clear hb
  have O8 := own; clear own
  have ey00 := y0.cell 0
  have ey01 := y0.cell 1
  have ey02 := y0.cell 2
  have ey03 := y0.cell 3
  have ey04 := y0.cell 4
  have zy0 := y0.lt
  go_wp2_with fail
  refine (eqWorkSheetS_same _ _ _ _ _ _ _ _ xs1 _ O5.rd O8.rd (Nat.le_refl _) (Nat.le_refl _)).mono ?_
  rintro e w9 ⟨rfl, hb⟩
  clear ey00 ey01 ey02 ey03 ey04 zy0
  replace y0 := y0.all hb
  replace R1 := R1.below hb HB.size
  replace O5 := O5.all hb
  replace O8 := O8.all hb
  replace HB := HB.trans (hb.mono HB.size)
  clear hb
  clear O8
  have ey00 := y0.cell 0
  have ey01 := y0.cell 1
  have ey02 := y0.cell 2
  have ey03 := y0.cell 3
  have ey04 := y0.cell 4
  have zy0 := y0.lt
  go_wp2_with fail
  go_ret
  exact ⟨rfl, HB⟩

set_option maxRecDepth 100000 in
set_option maxHeartbeats 2000000 in
theorem big (w : World) (s0 : RatesR) (A1 : Option Addr) (n1 c1 : Nat) (xs1 : List WorkSheetR) (a2 : Int) (a3 : Int) (a4 : Int) (h1 : RdF workSheetL w w.heap.size A1 n1 c1 xs1) (_o0 : s0.ok) (hs : ¬ (n1) ≤ 1048576) : Calls Try.prog 7 #[.agg #[.int .i64 s0.f0, .int .i64 s0.f1, .int .i64 s0.f2, .int .i64 s0.f3, .int .i64 s0.f4], .slice A1 n1 c1, .int .i64 a2, .int .i64 a3, .int .i64 a4] w fun e w' => e = .returned (.bool true) ∧ Below w.heap.size w w' := by
  have len1 := h1.len_lt
  have l1 := h1.len; subst l1
  have q1 : 0 ≤ ((xs1.length : Nat) : Int) := by omega
  have HB : Below w.heap.size w (w.alloc (.cells #[.int .i64 s0.f0, .int .i64 s0.f1, .int .i64 s0.f2, .int .i64 s0.f3, .int .i64 s0.f4] 36)) := (Below.refl _ _).alloc (by first | (simp; done) | (simp; omega)) _
  have y0 : Blk (w.alloc (.cells #[.int .i64 s0.f0, .int .i64 s0.f1, .int .i64 s0.f2, .int .i64 s0.f3, .int .i64 s0.f4] 36)) (w.heap.size) 36 #[.int .i64 s0.f0, .int .i64 s0.f1, .int .i64 s0.f2, .int .i64 s0.f3, .int .i64 s0.f4] := (Blk.new w #[.int .i64 s0.f0, .int .i64 s0.f1, .int .i64 s0.f2, .int .i64 s0.f3, .int .i64 s0.f4] 36).at_ (by simp)
  have R1 := (h1).alloc (by first | (simp; done) | (simp; omega)) (.cells #[.int .i64 s0.f0, .int .i64 s0.f1, .int .i64 s0.f2, .int .i64 s0.f3, .int .i64 s0.f4] 36)
  go_enter Try.func7, Try.ntmps7
  have e00_1 := y0.cell 0
  have e01_1 := y0.cell 1
  have e02_1 := y0.cell 2
  have e03_1 := y0.cell 3
  have e04_1 := y0.cell 4
  go_wp2_with fail
  refine (szWorkSheetS_no A1 xs1.length c1 _ _ (by omega) (by omega) (by omega) (by omega)).mono ?_
  rintro e w1 ⟨rfl, hb⟩
  clear e00_1 e01_1 e02_1 e03_1 e04_1
  replace y0 := y0.all hb
  replace R1 := R1.below hb HB.size
  replace HB := HB.trans (hb.mono HB.size)
  clear hb
  go_wp2_with fail
  go_ret
  exact ⟨rfl, HB⟩
theorem walk (w : World) (s0 : RatesR) (A1 : Option Addr) (n1 c1 : Nat) (xs1 : List WorkSheetR) (a2 : Int) (a3 : Int) (a4 : Int) (h1 : RdF workSheetL w w.heap.size A1 n1 c1 xs1) (o0 : s0.ok) (_l2 : -9223372036854775808 ≤ a2) (_u2 : a2 ≤ 9223372036854775807) (_l3 : -9223372036854775808 ≤ a3) (_u3 : a3 ≤ 9223372036854775807) (_l4 : -9223372036854775808 ≤ a4) (_u4 : a4 ≤ 9223372036854775807) : Calls Try.prog 7 #[.agg #[.int .i64 s0.f0, .int .i64 s0.f1, .int .i64 s0.f2, .int .i64 s0.f3, .int .i64 s0.f4], .slice A1 n1 c1, .int .i64 a2, .int .i64 a3, .int .i64 a4] w fun e w' => e = .returned (.bool true) ∧ Below w.heap.size w w' := by
  have l1 := h1.len
  by_cases hs : (n1) ≤ 1048576
  · exact core w s0 A1 n1 c1 xs1 a2 a3 a4 h1 hs _ _  (Lib.hid (fun w A1 c1 h1 => specWagesBetween_any s0 A1 _ c1 _ xs1 a2 a3 a4 w h1 (Nat.le_refl _))) (Lib.hid (fun w A1 c1 h1 => implWagesBetween_any s0 A1 _ c1 _ xs1 a2 a3 a4 w h1 (Nat.le_refl _)))
  · exact big w s0 A1 n1 c1 xs1 a2 a3 a4 h1 o0 hs
end Go.Proofs.Ythaghophlfbobaa.wagesBetween
