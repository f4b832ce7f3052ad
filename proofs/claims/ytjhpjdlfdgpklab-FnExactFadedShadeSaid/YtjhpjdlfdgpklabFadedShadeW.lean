/- The walk of the law FnExactFadedShade. No condition. -/
import Derived.Test.YtjhpjdlfdgpklabFaded
import Derived.Test.YtjhpjdlfdgpklabShadeHelp
namespace Go.Proofs.Ytjhpjdlfdgpklab.fadedShade
open Go.RowKit

set_option maxRecDepth 100000 in
set_option maxHeartbeats 2000000 in
theorem core (w : World) (s0 : ShadeR) (a1 : Int)  (hs : (s0.f1.size) ≤ 1048576) (r0 : ShadeR) (r1 : Bool)  (hspec : Hid (∀ (w : World) , Calls Try.prog 21 #[.agg #[.int .i64 s0.f0, .string s0.f1, .int .i64 s0.f2, .int .i64 s0.f3, .int .i64 s0.f4], .int .i64 a1] w (Out w (.tuple #[.agg #[.int .i64 r0.f0, .string r0.f1, .int .i64 r0.f2, .int .i64 r0.f3, .int .i64 r0.f4], .bool r1])))) (himpl : Hid (∀ (w : World) , Calls Try.prog 22 #[.agg #[.int .i64 s0.f0, .string s0.f1, .int .i64 s0.f2, .int .i64 s0.f3, .int .i64 s0.f4], .int .i64 a1] w (Out w (.tuple #[.agg #[.int .i64 r0.f0, .string r0.f1, .int .i64 r0.f2, .int .i64 r0.f3, .int .i64 r0.f4], .bool r1])))) :
    Calls Try.prog 6 #[.agg #[.int .i64 s0.f0, .string s0.f1, .int .i64 s0.f2, .int .i64 s0.f3, .int .i64 s0.f4], .int .i64 a1] w fun e w' => e = .returned (.bool true) ∧ Below w.heap.size w w' := by
  have q0 : 0 ≤ ((s0.f1.size : Nat) : Int) := by omega
  have y0 : Blk (w.alloc (.cells #[.int .i64 s0.f0, .string s0.f1, .int .i64 s0.f2, .int .i64 s0.f3, .int .i64 s0.f4] 26)) (w.heap.size) 26 #[.int .i64 s0.f0, .string s0.f1, .int .i64 s0.f2, .int .i64 s0.f3, .int .i64 s0.f4] := (Blk.new w #[.int .i64 s0.f0, .string s0.f1, .int .i64 s0.f2, .int .i64 s0.f3, .int .i64 s0.f4] 26).at_ (by simp)
  have HB : Below w.heap.size w (w.alloc (.cells #[.int .i64 s0.f0, .string s0.f1, .int .i64 s0.f2, .int .i64 s0.f3, .int .i64 s0.f4] 26)) := (Below.refl _ _).alloc (by first | (simp; done) | (simp; omega)) _
  go_enter Try.func6, Try.ntmps6
  have ey00 := y0.cell 0
  have ey01 := y0.cell 1
  have ey02 := y0.cell 2
  have ey03 := y0.cell 3
  have ey04 := y0.cell 4
  have zy0 := y0.lt
  go_wp2_with fail
  refine (szShade_yes s0 _ _ (by omega) (by omega)).mono ?_
  rintro e w1 ⟨rfl, hb⟩
  clear ey00 ey01 ey02 ey03 ey04 zy0
  replace y0 := y0.all hb
  replace HB := HB.trans (hb.mono HB.size)
  clear hb
  have ey00 := y0.cell 0
  have ey01 := y0.cell 1
  have ey02 := y0.cell 2
  have ey03 := y0.cell 3
  have ey04 := y0.cell 4
  have zy0 := y0.lt
  go_wp2_with fail
  refine (toShade_any s0 _).mono ?_
  rintro e w2 ⟨rfl, hb⟩
  clear ey00 ey01 ey02 ey03 ey04 zy0
  replace y0 := y0.all hb
  replace HB := HB.trans (hb.mono HB.size)
  clear hb
  have ey00 := y0.cell 0
  have ey01 := y0.cell 1
  have ey02 := y0.cell 2
  have ey03 := y0.cell 3
  have ey04 := y0.cell 4
  have zy0 := y0.lt
  go_wp2_with fail
  refine (hspec.out _  ).mono ?_
  rintro e w3 ⟨rfl, hb⟩
  clear ey00 ey01 ey02 ey03 ey04 zy0
  replace y0 := y0.all hb
  replace HB := HB.trans (hb.mono HB.size)
  clear hb
  have ey00 := y0.cell 0
  have ey01 := y0.cell 1
  have ey02 := y0.cell 2
  have ey03 := y0.cell 3
  have ey04 := y0.cell 4
  have zy0 := y0.lt
  go_wp2_with fail
  refine (toShade_any s0 _).mono ?_
  rintro e w4 ⟨rfl, hb⟩
  clear ey00 ey01 ey02 ey03 ey04 zy0
  replace y0 := y0.alloc (.cells #[.int .i64 r0.f0, .string r0.f1, .int .i64 r0.f2, .int .i64 r0.f3, .int .i64 r0.f4] 29)
  have bspec := Blk.new w3 #[.int .i64 r0.f0, .string r0.f1, .int .i64 r0.f2, .int .i64 r0.f3, .int .i64 r0.f4] 29
  replace HB := HB.alloc HB.size (.cells #[.int .i64 r0.f0, .string r0.f1, .int .i64 r0.f2, .int .i64 r0.f3, .int .i64 r0.f4] 29)
  replace y0 := y0.all hb
  replace bspec := bspec.all hb
  replace HB := HB.trans (hb.mono HB.size)
  clear hb
  have ey00 := y0.cell 0
  have ey01 := y0.cell 1
  have ey02 := y0.cell 2
  have ey03 := y0.cell 3
  have ey04 := y0.cell 4
  have zy0 := y0.lt
  have ebspec0 := bspec.cell 0
  have ebspec1 := bspec.cell 1
  have ebspec2 := bspec.cell 2
  have ebspec3 := bspec.cell 3
  have ebspec4 := bspec.cell 4
  have zbspec := bspec.lt
  go_wp2_with fail
  refine (himpl.out _  ).mono ?_
  rintro e w5 ⟨rfl, hb⟩
  clear ey00 ey01 ey02 ey03 ey04 zy0 ebspec0 ebspec1 ebspec2 ebspec3 ebspec4 zbspec
  replace y0 := y0.all hb
  replace bspec := bspec.all hb
  replace HB := HB.trans (hb.mono HB.size)
  clear hb
  have ey00 := y0.cell 0
  have ey01 := y0.cell 1
  have ey02 := y0.cell 2
  have ey03 := y0.cell 3
  have ey04 := y0.cell 4
  have zy0 := y0.lt
  have ebspec0 := bspec.cell 0
  have ebspec1 := bspec.cell 1
  have ebspec2 := bspec.cell 2
  have ebspec3 := bspec.cell 3
  have ebspec4 := bspec.cell 4
  have zbspec := bspec.lt
  go_wp2_with fail
  refine (eqShade_same r0 _).mono ?_
  rintro e w6 ⟨rfl, hb⟩
  clear ey00 ey01 ey02 ey03 ey04 zy0 ebspec0 ebspec1 ebspec2 ebspec3 ebspec4 zbspec
  replace y0 := y0.alloc (.cells #[.int .i64 r0.f0, .string r0.f1, .int .i64 r0.f2, .int .i64 r0.f3, .int .i64 r0.f4] 29)
  replace bspec := bspec.alloc (.cells #[.int .i64 r0.f0, .string r0.f1, .int .i64 r0.f2, .int .i64 r0.f3, .int .i64 r0.f4] 29)
  have bimpl := Blk.new w5 #[.int .i64 r0.f0, .string r0.f1, .int .i64 r0.f2, .int .i64 r0.f3, .int .i64 r0.f4] 29
  replace HB := HB.alloc HB.size (.cells #[.int .i64 r0.f0, .string r0.f1, .int .i64 r0.f2, .int .i64 r0.f3, .int .i64 r0.f4] 29)
  replace y0 := y0.all hb
  replace bspec := bspec.all hb
  replace bimpl := bimpl.all hb
  replace HB := HB.trans (hb.mono HB.size)
  clear hb
  have ey00 := y0.cell 0
  have ey01 := y0.cell 1
  have ey02 := y0.cell 2
  have ey03 := y0.cell 3
  have ey04 := y0.cell 4
  have zy0 := y0.lt
  have ebspec0 := bspec.cell 0
  have ebspec1 := bspec.cell 1
  have ebspec2 := bspec.cell 2
  have ebspec3 := bspec.cell 3
  have ebspec4 := bspec.cell 4
  have zbspec := bspec.lt
  have ebimpl0 := bimpl.cell 0
  have ebimpl1 := bimpl.cell 1
  have ebimpl2 := bimpl.cell 2
  have ebimpl3 := bimpl.cell 3
  have ebimpl4 := bimpl.cell 4
  have zbimpl := bimpl.lt
  go_wp2_with fail
  go_ret
  exact ⟨rfl, HB⟩

set_option maxRecDepth 100000 in
set_option maxHeartbeats 2000000 in
theorem big (w : World) (s0 : ShadeR) (a1 : Int) (o0 : s0.ok) (hs : ¬ (s0.f1.size) ≤ 1048576) : Calls Try.prog 6 #[.agg #[.int .i64 s0.f0, .string s0.f1, .int .i64 s0.f2, .int .i64 s0.f3, .int .i64 s0.f4], .int .i64 a1] w fun e w' => e = .returned (.bool true) ∧ Below w.heap.size w w' := by
  have q0 : 0 ≤ ((s0.f1.size : Nat) : Int) := by omega
  have HB : Below w.heap.size w (w.alloc (.cells #[.int .i64 s0.f0, .string s0.f1, .int .i64 s0.f2, .int .i64 s0.f3, .int .i64 s0.f4] 26)) := (Below.refl _ _).alloc (by first | (simp; done) | (simp; omega)) _
  have y0 : Blk (w.alloc (.cells #[.int .i64 s0.f0, .string s0.f1, .int .i64 s0.f2, .int .i64 s0.f3, .int .i64 s0.f4] 26)) (w.heap.size) 26 #[.int .i64 s0.f0, .string s0.f1, .int .i64 s0.f2, .int .i64 s0.f3, .int .i64 s0.f4] := (Blk.new w #[.int .i64 s0.f0, .string s0.f1, .int .i64 s0.f2, .int .i64 s0.f3, .int .i64 s0.f4] 26).at_ (by simp)
  go_enter Try.func6, Try.ntmps6
  have e00_1 := y0.cell 0
  have e01_1 := y0.cell 1
  have e02_1 := y0.cell 2
  have e03_1 := y0.cell 3
  have e04_1 := y0.cell 4
  go_wp2_with fail
  refine (szShade_no s0 _ _ o0 (by omega) (by omega) (by omega)).mono ?_
  rintro e w1 ⟨rfl, hb⟩
  clear e00_1 e01_1 e02_1 e03_1 e04_1
  replace y0 := y0.all hb
  replace HB := HB.trans (hb.mono HB.size)
  clear hb
  go_wp2_with fail
  go_ret
  exact ⟨rfl, HB⟩
theorem walk (w : World) (s0 : ShadeR) (a1 : Int) (o0 : s0.ok) (_l1 : -9223372036854775808 ≤ a1) (_u1 : a1 ≤ 9223372036854775807) : Calls Try.prog 6 #[.agg #[.int .i64 s0.f0, .string s0.f1, .int .i64 s0.f2, .int .i64 s0.f3, .int .i64 s0.f4], .int .i64 a1] w fun e w' => e = .returned (.bool true) ∧ Below w.heap.size w w' := by
  by_cases hs : (s0.f1.size) ≤ 1048576
  · exact core w s0 a1  hs _ _  (Lib.hid (fun w => specFadedShade_any s0 a1 w o0.2.1)) (Lib.hid (fun w => implFadedShade_any s0 a1 w o0.2.1))
  · exact big w s0 a1 o0 hs
end Go.Proofs.Ytjhpjdlfdgpklab.fadedShade
