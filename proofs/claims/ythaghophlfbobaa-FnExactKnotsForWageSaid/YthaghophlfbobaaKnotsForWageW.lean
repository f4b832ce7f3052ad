/- The walk of the law FnExactKnotsForWage. No condition. -/
import Derived.Test.YthaghophlfbobaaKnots14
import Derived.Test.YthaghophlfbobaaRatesHelp
namespace Go.Proofs.Ythaghophlfbobaa.knotsForWage
open Go.RowKit

set_option maxRecDepth 100000 in
set_option maxHeartbeats 2000000 in
theorem core (w : World) (s0 : RatesR) (a1 : Int)   (r0 : Int) (r1 : Bool)  (hspec : Hid (∀ (w : World) , Calls Try.prog 38 #[.agg #[.int .i64 s0.f0, .int .i64 s0.f1, .int .i64 s0.f2, .int .i64 s0.f3, .int .i64 s0.f4], .int .i64 a1] w (Out w (.tuple #[.int .i64 r0, .bool r1])))) (himpl : Hid (∀ (w : World) , Calls Try.prog 39 #[.agg #[.int .i64 s0.f0, .int .i64 s0.f1, .int .i64 s0.f2, .int .i64 s0.f3, .int .i64 s0.f4], .int .i64 a1] w (Out w (.tuple #[.int .i64 r0, .bool r1])))) :
    Calls Try.prog 11 #[.agg #[.int .i64 s0.f0, .int .i64 s0.f1, .int .i64 s0.f2, .int .i64 s0.f3, .int .i64 s0.f4], .int .i64 a1] w fun e w' => e = .returned (.bool true) ∧ Below w.heap.size w w' := by
  have y0 : Blk (w.alloc (.cells #[.int .i64 s0.f0, .int .i64 s0.f1, .int .i64 s0.f2, .int .i64 s0.f3, .int .i64 s0.f4] 36)) (w.heap.size) 36 #[.int .i64 s0.f0, .int .i64 s0.f1, .int .i64 s0.f2, .int .i64 s0.f3, .int .i64 s0.f4] := (Blk.new w #[.int .i64 s0.f0, .int .i64 s0.f1, .int .i64 s0.f2, .int .i64 s0.f3, .int .i64 s0.f4] 36).at_ (by simp)
  have HB : Below w.heap.size w (w.alloc (.cells #[.int .i64 s0.f0, .int .i64 s0.f1, .int .i64 s0.f2, .int .i64 s0.f3, .int .i64 s0.f4] 36)) := (Below.refl _ _).alloc (by first | (simp; done) | (simp; omega)) _
  go_enter Try.func11, Try.ntmps11
  have ey00 := y0.cell 0
  have ey01 := y0.cell 1
  have ey02 := y0.cell 2
  have ey03 := y0.cell 3
  have ey04 := y0.cell 4
  have zy0 := y0.lt
  go_wp2_with fail
  refine (toRates_any s0 _).mono ?_
  rintro e w1 ⟨rfl, hb⟩
  clear ey00 ey01 ey02 ey03 ey04 zy0
  replace y0 := y0.all hb
  replace HB := HB.trans (hb.mono HB.size)
  clear hb
  have ey00 := y0.cell 0
  have ey01 := y0.cell 1
  have ey02 := y0.cell 2
  have ey03 := y0.cell 3
  have ey04 := y0.cell 4
  have zy0 := y0.lt
  go_wp2_with fail
  refine (hspec.out _  ).mono ?_
  rintro e w2 ⟨rfl, hb⟩
  clear ey00 ey01 ey02 ey03 ey04 zy0
  replace y0 := y0.all hb
  replace HB := HB.trans (hb.mono HB.size)
  clear hb
  have ey00 := y0.cell 0
  have ey01 := y0.cell 1
  have ey02 := y0.cell 2
  have ey03 := y0.cell 3
  have ey04 := y0.cell 4
  have zy0 := y0.lt
  go_wp2_with fail
  refine (toRates_any s0 _).mono ?_
  rintro e w3 ⟨rfl, hb⟩
  clear ey00 ey01 ey02 ey03 ey04 zy0
  replace y0 := y0.all hb
  replace HB := HB.trans (hb.mono HB.size)
  clear hb
  have ey00 := y0.cell 0
  have ey01 := y0.cell 1
  have ey02 := y0.cell 2
  have ey03 := y0.cell 3
  have ey04 := y0.cell 4
  have zy0 := y0.lt
  go_wp2_with fail
  refine (himpl.out _  ).mono ?_
  rintro e w4 ⟨rfl, hb⟩
  clear ey00 ey01 ey02 ey03 ey04 zy0
  replace y0 := y0.all hb
  replace HB := HB.trans (hb.mono HB.size)
  clear hb
  have ey00 := y0.cell 0
  have ey01 := y0.cell 1
  have ey02 := y0.cell 2
  have ey03 := y0.cell 3
  have ey04 := y0.cell 4
  have zy0 := y0.lt
  go_wp2_with fail
  go_ret
  exact ⟨rfl, HB⟩

theorem walk (w : World) (s0 : RatesR) (a1 : Int) (_o0 : s0.ok) (_l1 : -9223372036854775808 ≤ a1) (_u1 : a1 ≤ 9223372036854775807) : Calls Try.prog 11 #[.agg #[.int .i64 s0.f0, .int .i64 s0.f1, .int .i64 s0.f2, .int .i64 s0.f3, .int .i64 s0.f4], .int .i64 a1] w fun e w' => e = .returned (.bool true) ∧ Below w.heap.size w w' := by
  exact core w s0 a1   _ _  (Lib.hid (fun w => specKnotsForWage_any s0 a1 w)) (Lib.hid (fun w => implKnotsForWage_any s0 a1 w))
end Go.Proofs.Ythaghophlfbobaa.knotsForWage
