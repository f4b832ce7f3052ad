/- The walk of the law FnExactIsWorkSheet. No condition. -/
import Derived.Test.YthaghophlfbobaaSheet1
import Derived.Test.YthaghophlfbobaaWorkSheetHelp
namespace Go.Proofs.Ythaghophlfbobaa.isWorkSheet
open Go.RowKit

set_option maxRecDepth 100000 in
set_option maxHeartbeats 2000000 in
theorem core (w : World) (s0 : WorkSheetR)   (r0 : Bool)  (hspec : Hid (∀ (w : World) , Calls Try.prog 13 #[.agg #[.int .i64 s0.f0, .int .i64 s0.f1, .int .i64 s0.f2, .int .i64 s0.f3, .int .i64 s0.f4]] w (Out w (.bool r0)))) (himpl : Hid (∀ (w : World) , Calls Try.prog 15 #[.agg #[.int .i64 s0.f0, .int .i64 s0.f1, .int .i64 s0.f2, .int .i64 s0.f3, .int .i64 s0.f4]] w (Out w (.bool r0)))) :
    Calls Try.prog 3 #[.agg #[.int .i64 s0.f0, .int .i64 s0.f1, .int .i64 s0.f2, .int .i64 s0.f3, .int .i64 s0.f4]] w fun e w' => e = .returned (.bool true) ∧ Below w.heap.size w w' := by
  have y0 : Blk (w.alloc (.cells #[.int .i64 s0.f0, .int .i64 s0.f1, .int .i64 s0.f2, .int .i64 s0.f3, .int .i64 s0.f4] 23)) (w.heap.size) 23 #[.int .i64 s0.f0, .int .i64 s0.f1, .int .i64 s0.f2, .int .i64 s0.f3, .int .i64 s0.f4] := (Blk.new w #[.int .i64 s0.f0, .int .i64 s0.f1, .int .i64 s0.f2, .int .i64 s0.f3, .int .i64 s0.f4] 23).at_ (by simp)
  have HB : Below w.heap.size w (w.alloc (.cells #[.int .i64 s0.f0, .int .i64 s0.f1, .int .i64 s0.f2, .int .i64 s0.f3, .int .i64 s0.f4] 23)) := (Below.refl _ _).alloc (by first | (simp; done) | (simp; omega)) _
  go_enter Try.func3, Try.ntmps3
  have ey00 := y0.cell 0
  have ey01 := y0.cell 1
  have ey02 := y0.cell 2
  have ey03 := y0.cell 3
  have ey04 := y0.cell 4
  have zy0 := y0.lt
  go_wp2_with fail
  refine (toWorkSheet_any s0 _).mono ?_
  rintro e w1 ⟨rfl, hb⟩
  clear ey00 ey01 ey02 ey03 ey04 zy0
  replace y0 := y0.all hb
  replace HB := HB.trans (hb.mono HB.size)
  clear hb
  have ey00 := y0.cell 0
  have ey01 := y0.cell 1
  have ey02 := y0.cell 2
  have ey03 := y0.cell 3
  have ey04 := y0.cell 4
  have zy0 := y0.lt
  go_wp2_with fail
  refine (hspec.out _  ).mono ?_
  rintro e w2 ⟨rfl, hb⟩
  clear ey00 ey01 ey02 ey03 ey04 zy0
  replace y0 := y0.all hb
  replace HB := HB.trans (hb.mono HB.size)
  clear hb
  have ey00 := y0.cell 0
  have ey01 := y0.cell 1
  have ey02 := y0.cell 2
  have ey03 := y0.cell 3
  have ey04 := y0.cell 4
  have zy0 := y0.lt
  go_wp2_with fail
  refine (toWorkSheet_any s0 _).mono ?_
  rintro e w3 ⟨rfl, hb⟩
  clear ey00 ey01 ey02 ey03 ey04 zy0
  replace y0 := y0.all hb
  replace HB := HB.trans (hb.mono HB.size)
  clear hb
  have ey00 := y0.cell 0
  have ey01 := y0.cell 1
  have ey02 := y0.cell 2
  have ey03 := y0.cell 3
  have ey04 := y0.cell 4
  have zy0 := y0.lt
  go_wp2_with fail
  refine (himpl.out _  ).mono ?_
  rintro e w4 ⟨rfl, hb⟩
  clear ey00 ey01 ey02 ey03 ey04 zy0
  replace y0 := y0.all hb
  replace HB := HB.trans (hb.mono HB.size)
  clear hb
  have ey00 := y0.cell 0
  have ey01 := y0.cell 1
  have ey02 := y0.cell 2
  have ey03 := y0.cell 3
  have ey04 := y0.cell 4
  have zy0 := y0.lt
  go_wp2_with fail
  go_ret
  exact ⟨rfl, HB⟩

theorem walk (w : World) (s0 : WorkSheetR) (_o0 : s0.ok) : Calls Try.prog 3 #[.agg #[.int .i64 s0.f0, .int .i64 s0.f1, .int .i64 s0.f2, .int .i64 s0.f3, .int .i64 s0.f4]] w fun e w' => e = .returned (.bool true) ∧ Below w.heap.size w w' := by
  exact core w s0   _  (Lib.hid (fun w => specIsWorkSheet_any s0 w)) (Lib.hid (fun w => implIsWorkSheet_any s0 w))
end Go.Proofs.Ythaghophlfbobaa.isWorkSheet
