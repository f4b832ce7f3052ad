/- The walk of the law FnExactIsWeaver. No condition. -/
import Derived.Test.YteghebjnaggmoaaWeaver
import Derived.Test.YteghebjnaggmoaaWeaverHelp
namespace Go.Proofs.Yteghebjnaggmoaa.isWeaver
open Go.RowKit

set_option maxRecDepth 100000 in
set_option maxHeartbeats 2000000 in
theorem core (w : World) (s0 : WeaverR)  (hs : (s0.f1.size) ≤ 1048576) (r0 : Bool)  (hspec : Hid (∀ (w : World) , Calls Try.prog 14 #[.agg #[.int .i64 s0.f0, .string s0.f1, .int .i64 s0.f2, .int .i64 s0.f3, .int .i64 s0.f4]] w (Out w (.bool r0)))) (himpl : Hid (∀ (w : World) , Calls Try.prog 16 #[.agg #[.int .i64 s0.f0, .string s0.f1, .int .i64 s0.f2, .int .i64 s0.f3, .int .i64 s0.f4]] w (Out w (.bool r0)))) :
    Calls Try.prog 3 #[.agg #[.int .i64 s0.f0, .string s0.f1, .int .i64 s0.f2, .int .i64 s0.f3, .int .i64 s0.f4]] w fun e w' => e = .returned (.bool true) ∧ Below w.heap.size w w' := by
  have q0 : 0 ≤ ((s0.f1.size : Nat) : Int) := by omega
  have y0 : Blk (w.alloc (.cells #[.int .i64 s0.f0, .string s0.f1, .int .i64 s0.f2, .int .i64 s0.f3, .int .i64 s0.f4] 23)) (w.heap.size) 23 #[.int .i64 s0.f0, .string s0.f1, .int .i64 s0.f2, .int .i64 s0.f3, .int .i64 s0.f4] := (Blk.new w #[.int .i64 s0.f0, .string s0.f1, .int .i64 s0.f2, .int .i64 s0.f3, .int .i64 s0.f4] 23).at_ (by simp)
  have HB : Below w.heap.size w (w.alloc (.cells #[.int .i64 s0.f0, .string s0.f1, .int .i64 s0.f2, .int .i64 s0.f3, .int .i64 s0.f4] 23)) := (Below.refl _ _).alloc (by first | (simp; done) | (simp; omega)) _
  go_enter Try.func3, Try.ntmps3
  have ey00 := y0.cell 0
  have ey01 := y0.cell 1
  have ey02 := y0.cell 2
  have ey03 := y0.cell 3
  have ey04 := y0.cell 4
  have zy0 := y0.lt
  go_wp2_with fail
  refine (szWeaver_yes s0 _ _ (by omega) (by omega)).mono ?_
  rintro e w1 ⟨rfl, hb⟩
  clear ey00 ey01 ey02 ey03 ey04 zy0
  replace y0 := y0.all hb
  replace HB := HB.trans (hb.mono HB.size)
  clear hb
  have ey00 := y0.cell 0
  have ey01 := y0.cell 1
  have ey02 := y0.cell 2
  have ey03 := y0.cell 3
  have ey04 := y0.cell 4
  have zy0 := y0.lt
  go_wp2_with fail
  refine (toWeaver_any s0 _).mono ?_
  rintro e w2 ⟨rfl, hb⟩
  clear ey00 ey01 ey02 ey03 ey04 zy0
  replace y0 := y0.all hb
  replace HB := HB.trans (hb.mono HB.size)
  clear hb
  have ey00 := y0.cell 0
  have ey01 := y0.cell 1
  have ey02 := y0.cell 2
  have ey03 := y0.cell 3
  have ey04 := y0.cell 4
  have zy0 := y0.lt
  go_wp2_with fail
  refine (hspec.out _  ).mono ?_
  rintro e w3 ⟨rfl, hb⟩
  clear ey00 ey01 ey02 ey03 ey04 zy0
  replace y0 := y0.all hb
  replace HB := HB.trans (hb.mono HB.size)
  clear hb
  have ey00 := y0.cell 0
  have ey01 := y0.cell 1
  have ey02 := y0.cell 2
  have ey03 := y0.cell 3
  have ey04 := y0.cell 4
  have zy0 := y0.lt
  go_wp2_with fail
  refine (toWeaver_any s0 _).mono ?_
  rintro e w4 ⟨rfl, hb⟩
  clear ey00 ey01 ey02 ey03 ey04 zy0
  replace y0 := y0.all hb
  replace HB := HB.trans (hb.mono HB.size)
  clear hb
  have ey00 := y0.cell 0
  have ey01 := y0.cell 1
  have ey02 := y0.cell 2
  have ey03 := y0.cell 3
  have ey04 := y0.cell 4
  have zy0 := y0.lt
  go_wp2_with fail
  refine (himpl.out _  ).mono ?_
  rintro e w5 ⟨rfl, hb⟩
  clear ey00 ey01 ey02 ey03 ey04 zy0
  replace y0 := y0.all hb
  replace HB := HB.trans (hb.mono HB.size)
  clear hb
  have ey00 := y0.cell 0
  have ey01 := y0.cell 1
  have ey02 := y0.cell 2
  have ey03 := y0.cell 3
  have ey04 := y0.cell 4
  have zy0 := y0.lt
  go_wp2_with fail
  go_ret
  exact ⟨rfl, HB⟩

set_option maxRecDepth 100000 in
set_option maxHeartbeats 2000000 in
theorem big (w : World) (s0 : WeaverR) (o0 : s0.ok) (hs : ¬ (s0.f1.size) ≤ 1048576) : Calls Try.prog 3 #[.agg #[.int .i64 s0.f0, .string s0.f1, .int .i64 s0.f2, .int .i64 s0.f3, .int .i64 s0.f4]] w fun e w' => e = .returned (.bool true) ∧ Below w.heap.size w w' := by
  have q0 : 0 ≤ ((s0.f1.size : Nat) : Int) := by omega
  have HB : Below w.heap.size w (w.alloc (.cells #[.int .i64 s0.f0, .string s0.f1, .int .i64 s0.f2, .int .i64 s0.f3, .int .i64 s0.f4] 23)) := (Below.refl _ _).alloc (by first | (simp; done) | (simp; omega)) _
  have y0 : Blk (w.alloc (.cells #[.int .i64 s0.f0, .string s0.f1, .int .i64 s0.f2, .int .i64 s0.f3, .int .i64 s0.f4] 23)) (w.heap.size) 23 #[.int .i64 s0.f0, .string s0.f1, .int .i64 s0.f2, .int .i64 s0.f3, .int .i64 s0.f4] := (Blk.new w #[.int .i64 s0.f0, .string s0.f1, .int .i64 s0.f2, .int .i64 s0.f3, .int .i64 s0.f4] 23).at_ (by simp)
  go_enter Try.func3, Try.ntmps3
  have e00_1 := y0.cell 0
  have e01_1 := y0.cell 1
  have e02_1 := y0.cell 2
  have e03_1 := y0.cell 3
  have e04_1 := y0.cell 4
  go_wp2_with fail
  refine (szWeaver_no s0 _ _ o0 (by omega) (by omega) (by omega)).mono ?_
  rintro e w1 ⟨rfl, hb⟩
  clear e00_1 e01_1 e02_1 e03_1 e04_1
  replace y0 := y0.all hb
  replace HB := HB.trans (hb.mono HB.size)
  clear hb
  go_wp2_with fail
  go_ret
  exact ⟨rfl, HB⟩
theorem walk (w : World) (s0 : WeaverR) (o0 : s0.ok) : Calls Try.prog 3 #[.agg #[.int .i64 s0.f0, .string s0.f1, .int .i64 s0.f2, .int .i64 s0.f3, .int .i64 s0.f4]] w fun e w' => e = .returned (.bool true) ∧ Below w.heap.size w w' := by
  by_cases hs : (s0.f1.size) ≤ 1048576
  · exact core w s0  hs _  (Lib.hid (fun w => specIsWeaver_any s0 w o0.2.1)) (Lib.hid (fun w => implIsWeaver_any s0 w o0.2.1))
  · exact big w s0 o0 hs
end Go.Proofs.Yteghebjnaggmoaa.isWeaver
