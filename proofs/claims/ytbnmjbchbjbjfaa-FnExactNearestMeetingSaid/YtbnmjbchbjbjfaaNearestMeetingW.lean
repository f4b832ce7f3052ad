/- The walk of the law FnExactNearestMeeting. No condition. -/
import Derived.Test.YtbnmjbchbjbjfaaRing9
namespace Go.Proofs.Ytbnmjbchbjbjfaa.nearestMeeting
open Go.RowKit

set_option maxRecDepth 100000 in
set_option maxHeartbeats 1000000 in
theorem core (w : World) (a0 : Int) (a1 : Int) (a2 : Int)  (r0 : Int) (r1 : Int) (r2 : Bool) (hspec : Hid (∀ (w : World) , Calls Try.prog 35 #[.int .i64 a0, .int .i64 a1, .int .i64 a2] w (Out w (.tuple #[.int .i64 r0, .int .i64 r1, .bool r2])))) (himpl : Hid (∀ (w : World) , Calls Try.prog 36 #[.int .i64 a0, .int .i64 a1, .int .i64 a2] w (Out w (.tuple #[.int .i64 r0, .int .i64 r1, .bool r2])))) :
    Calls Try.prog 10 #[.int .i64 a0, .int .i64 a1, .int .i64 a2] w fun e w' => e = .returned (.bool true) ∧ Below w.heap.size w w' := by
  have HB := Lib.hid (Below.refl w.heap.size w)
  have hz : w.heap.size ≤ w.heap.size := Nat.le_refl _
  go_enter Try.func10, Try.ntmps10
  go_wp2_with fail
  refine (hspec.out _  ).mono ?_
  rintro e w_1 ⟨rfl, hb⟩
  have hsw_1 : w.heap.size ≤ w_1.heap.size := hb.size
  replace HB := Lib.hid (HB.out.trans (hb.mono hz))
  replace hz : w.heap.size ≤ w_1.heap.size := by omega
  clear hb
  go_wp2_with fail
  refine (himpl.out _  ).mono ?_
  rintro e w_2 ⟨rfl, hb⟩
  have hsw_2 : w_1.heap.size ≤ w_2.heap.size := hb.size
  replace HB := Lib.hid (HB.out.trans (hb.mono hz))
  replace hz : w.heap.size ≤ w_2.heap.size := by omega
  clear hb
  go_wp2_with fail
  go_ret
  exact ⟨rfl, HB.out⟩

theorem walk (w : World) (a0 : Int) (_l0 : -9223372036854775808 ≤ a0) (_u0 : a0 ≤ 9223372036854775807) (a1 : Int) (_l1 : -9223372036854775808 ≤ a1) (_u1 : a1 ≤ 9223372036854775807) (a2 : Int) (_l2 : -9223372036854775808 ≤ a2) (_u2 : a2 ≤ 9223372036854775807) : Calls Try.prog 10 #[.int .i64 a0, .int .i64 a1, .int .i64 a2] w fun e w' => e = .returned (.bool true) ∧ Below w.heap.size w w' := by
  exact core w a0 a1 a2 _ _ _  (Lib.hid (fun w => specNearestMeeting_any a0 a1 a2 w)) (Lib.hid (fun w => implNearestMeeting_any a0 a1 a2 w))
end Go.Proofs.Ytbnmjbchbjbjfaa.nearestMeeting
