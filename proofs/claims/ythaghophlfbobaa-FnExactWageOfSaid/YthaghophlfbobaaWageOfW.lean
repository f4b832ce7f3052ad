/- The walk of the law FnExactWageOf. No condition. -/
import Derived.Test.YthaghophlfbobaaSheet1
import Derived.Test.YthaghophlfbobaaRatesHelp
import Derived.Test.YthaghophlfbobaaWorkSheetHelp
namespace Go.Proofs.Ythaghophlfbobaa.wageOf
open Go.RowKit

set_option maxRecDepth 100000 in
set_option maxHeartbeats 2000000 in
theorem core (w : World) (s0 : RatesR) (s1 : WorkSheetR)   (r0 : Int) (r1 : Bool)  (hspec : Hid (∀ (w : World) , Calls Try.prog 24 #[.agg #[.int .i64 s0.f0, .int .i64 s0.f1, .int .i64 s0.f2, .int .i64 s0.f3, .int .i64 s0.f4], .agg #[.int .i64 s1.f0, .int .i64 s1.f1, .int .i64 s1.f2, .int .i64 s1.f3, .int .i64 s1.f4]] w (Out w (.tuple #[.int .i64 r0, .bool r1])))) (himpl : Hid (∀ (w : World) , Calls Try.prog 25 #[.agg #[.int .i64 s0.f0, .int .i64 s0.f1, .int .i64 s0.f2, .int .i64 s0.f3, .int .i64 s0.f4], .agg #[.int .i64 s1.f0, .int .i64 s1.f1, .int .i64 s1.f2, .int .i64 s1.f3, .int .i64 s1.f4]] w (Out w (.tuple #[.int .i64 r0, .bool r1])))) :
    Calls Try.prog 6 #[.agg #[.int .i64 s0.f0, .int .i64 s0.f1, .int .i64 s0.f2, .int .i64 s0.f3, .int .i64 s0.f4], .agg #[.int .i64 s1.f0, .int .i64 s1.f1, .int .i64 s1.f2, .int .i64 s1.f3, .int .i64 s1.f4]] w fun e w' => e = .returned (.bool true) ∧ Below w.heap.size w w' := by
  have y0 : Blk ((w.alloc (.cells #[.int .i64 s0.f0, .int .i64 s0.f1, .int .i64 s0.f2, .int .i64 s0.f3, .int .i64 s0.f4] 36)).alloc (.cells #[.int .i64 s1.f0, .int .i64 s1.f1, .int .i64 s1.f2, .int .i64 s1.f3, .int .i64 s1.f4] 23)) (w.heap.size) 36 #[.int .i64 s0.f0, .int .i64 s0.f1, .int .i64 s0.f2, .int .i64 s0.f3, .int .i64 s0.f4] := ((Blk.new w #[.int .i64 s0.f0, .int .i64 s0.f1, .int .i64 s0.f2, .int .i64 s0.f3, .int .i64 s0.f4] 36).alloc (.cells #[.int .i64 s1.f0, .int .i64 s1.f1, .int .i64 s1.f2, .int .i64 s1.f3, .int .i64 s1.f4] 23)).at_ (by simp)
  have y1 : Blk ((w.alloc (.cells #[.int .i64 s0.f0, .int .i64 s0.f1, .int .i64 s0.f2, .int .i64 s0.f3, .int .i64 s0.f4] 36)).alloc (.cells #[.int .i64 s1.f0, .int .i64 s1.f1, .int .i64 s1.f2, .int .i64 s1.f3, .int .i64 s1.f4] 23)) (w.heap.size + 1) 23 #[.int .i64 s1.f0, .int .i64 s1.f1, .int .i64 s1.f2, .int .i64 s1.f3, .int .i64 s1.f4] := (Blk.new (w.alloc (.cells #[.int .i64 s0.f0, .int .i64 s0.f1, .int .i64 s0.f2, .int .i64 s0.f3, .int .i64 s0.f4] 36)) #[.int .i64 s1.f0, .int .i64 s1.f1, .int .i64 s1.f2, .int .i64 s1.f3, .int .i64 s1.f4] 23).at_ (by simp)
  have HB : Below w.heap.size w ((w.alloc (.cells #[.int .i64 s0.f0, .int .i64 s0.f1, .int .i64 s0.f2, .int .i64 s0.f3, .int .i64 s0.f4] 36)).alloc (.cells #[.int .i64 s1.f0, .int .i64 s1.f1, .int .i64 s1.f2, .int .i64 s1.f3, .int .i64 s1.f4] 23)) := ((Below.refl _ _).alloc (by first | (simp; done) | (simp; omega)) _).alloc (by first | (simp; done) | (simp; omega)) _
  go_enter Try.func6, Try.ntmps6
  have ey00 := y0.cell 0
  have ey01 := y0.cell 1
  have ey02 := y0.cell 2
  have ey03 := y0.cell 3
  have ey04 := y0.cell 4
  have ey10 := y1.cell 0
  have ey11 := y1.cell 1
  have ey12 := y1.cell 2
  have ey13 := y1.cell 3
  have ey14 := y1.cell 4
  go_wp2
  go_region_held3 (fun w' => w'.cell? ⟨w.heap.size, 0, none⟩ = some (.int .i64 s0.f0) ∧ w'.cell? ⟨w.heap.size, 1, none⟩ = some (.int .i64 s0.f1) ∧ w'.cell? ⟨w.heap.size, 2, none⟩ = some (.int .i64 s0.f2) ∧ w'.cell? ⟨w.heap.size, 3, none⟩ = some (.int .i64 s0.f3) ∧ w'.cell? ⟨w.heap.size, 4, none⟩ = some (.int .i64 s0.f4) ∧ w'.cell? ⟨w.heap.size + 1, 0, none⟩ = some (.int .i64 s1.f0) ∧ w'.cell? ⟨w.heap.size + 1, 1, none⟩ = some (.int .i64 s1.f1) ∧ w'.cell? ⟨w.heap.size + 1, 2, none⟩ = some (.int .i64 s1.f2) ∧ w'.cell? ⟨w.heap.size + 1, 3, none⟩ = some (.int .i64 s1.f3) ∧ w'.cell? ⟨w.heap.size + 1, 4, none⟩ = some (.int .i64 s1.f4)) (first | exact ⟨y0.cell 0, y0.cell 1, y0.cell 2, y0.cell 3, y0.cell 4, y1.cell 0, y1.cell 1, y1.cell 2, y1.cell 3, y1.cell 4⟩ | go_keep) (first | (go_at_call 22; (with_reducible refine (toRates_any s0 _).mono ?_); rintro e w1 ⟨rfl, hb⟩; (try replace hb := below_drew' hb); replace y0 := y0.all hb; replace y1 := y1.all hb; replace HB := HB.trans (hb.mono HB.size); clear hb) | (go_at_call 14; (with_reducible refine (toWorkSheet_any s1 _).mono ?_); rintro e w1 ⟨rfl, hb⟩; (try replace hb := below_drew' hb); replace y0 := y0.all hb; replace y1 := y1.all hb; replace HB := HB.trans (hb.mono HB.size); clear hb) | (go_at_call 24; (with_reducible refine (hspec.out _).mono ?_); rintro e w1 ⟨rfl, hb⟩; (try replace hb := below_drew' hb); replace y0 := y0.all hb; replace y1 := y1.all hb; replace HB := HB.trans (hb.mono HB.size); clear hb))
  all_goals
    clear ey00 ey01 ey02 ey03 ey04 ey10 ey11 ey12 ey13 ey14
    have ey00 := y0.cell 0
    have ey01 := y0.cell 1
    have ey02 := y0.cell 2
    have ey03 := y0.cell 3
    have ey04 := y0.cell 4
    have ey10 := y1.cell 0
    have ey11 := y1.cell 1
    have ey12 := y1.cell 2
    have ey13 := y1.cell 3
    have ey14 := y1.cell 4
    go_wp2
    go_region_held3 (fun w' => w'.cell? ⟨w.heap.size, 0, none⟩ = some (.int .i64 s0.f0) ∧ w'.cell? ⟨w.heap.size, 1, none⟩ = some (.int .i64 s0.f1) ∧ w'.cell? ⟨w.heap.size, 2, none⟩ = some (.int .i64 s0.f2) ∧ w'.cell? ⟨w.heap.size, 3, none⟩ = some (.int .i64 s0.f3) ∧ w'.cell? ⟨w.heap.size, 4, none⟩ = some (.int .i64 s0.f4) ∧ w'.cell? ⟨w.heap.size + 1, 0, none⟩ = some (.int .i64 s1.f0) ∧ w'.cell? ⟨w.heap.size + 1, 1, none⟩ = some (.int .i64 s1.f1) ∧ w'.cell? ⟨w.heap.size + 1, 2, none⟩ = some (.int .i64 s1.f2) ∧ w'.cell? ⟨w.heap.size + 1, 3, none⟩ = some (.int .i64 s1.f3) ∧ w'.cell? ⟨w.heap.size + 1, 4, none⟩ = some (.int .i64 s1.f4)) (first | exact ⟨y0.cell 0, y0.cell 1, y0.cell 2, y0.cell 3, y0.cell 4, y1.cell 0, y1.cell 1, y1.cell 2, y1.cell 3, y1.cell 4⟩ | go_keep) (first | (go_at_call 22; (with_reducible refine (toRates_any s0 _).mono ?_); rintro e w1 ⟨rfl, hb⟩; (try replace hb := below_drew' hb); replace y0 := y0.all hb; replace y1 := y1.all hb; replace HB := HB.trans (hb.mono HB.size); clear hb) | (go_at_call 14; (with_reducible refine (toWorkSheet_any s1 _).mono ?_); rintro e w1 ⟨rfl, hb⟩; (try replace hb := below_drew' hb); replace y0 := y0.all hb; replace y1 := y1.all hb; replace HB := HB.trans (hb.mono HB.size); clear hb) | (go_at_call 25; (with_reducible refine (himpl.out _).mono ?_); rintro e w1 ⟨rfl, hb⟩; (try replace hb := below_drew' hb); replace y0 := y0.all hb; replace y1 := y1.all hb; replace HB := HB.trans (hb.mono HB.size); clear hb))
    all_goals
      clear ey00 ey01 ey02 ey03 ey04 ey10 ey11 ey12 ey13 ey14
      have ey00 := y0.cell 0
      have ey01 := y0.cell 1
      have ey02 := y0.cell 2
      have ey03 := y0.cell 3
      have ey04 := y0.cell 4
      have zy0 := y0.lt
      have ey10 := y1.cell 0
      have ey11 := y1.cell 1
      have ey12 := y1.cell 2
      have ey13 := y1.cell 3
      have ey14 := y1.cell 4
      have zy1 := y1.lt
      go_wp2_with fail
      go_ret
      exact ⟨rfl, HB⟩

theorem walk (w : World) (s0 : RatesR) (s1 : WorkSheetR) (_o0 : s0.ok) (_o1 : s1.ok) : Calls Try.prog 6 #[.agg #[.int .i64 s0.f0, .int .i64 s0.f1, .int .i64 s0.f2, .int .i64 s0.f3, .int .i64 s0.f4], .agg #[.int .i64 s1.f0, .int .i64 s1.f1, .int .i64 s1.f2, .int .i64 s1.f3, .int .i64 s1.f4]] w fun e w' => e = .returned (.bool true) ∧ Below w.heap.size w w' := by
  exact core w s0 s1   _ _  (Lib.hid (fun w => specWageOf_any s0 s1 w)) (Lib.hid (fun w => implWageOf_any s0 s1 w))
end Go.Proofs.Ythaghophlfbobaa.wageOf
