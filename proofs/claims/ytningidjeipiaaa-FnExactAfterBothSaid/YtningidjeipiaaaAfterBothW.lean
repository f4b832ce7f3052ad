/- The walk of the law FnExactAfterBoth. No condition. -/
import Derived.Test.YtningidjeipiaaaBoth
namespace Go.Proofs.Ytningidjeipiaaa.afterBoth
open Go.RowKit

set_option maxRecDepth 100000 in
set_option maxHeartbeats 2000000 in
theorem core (w : World) (a0 : Int) (a1 : Int)   (r0 : Int) (r1 : Bool)  (hspec : Hid (∀ (w : World) , Calls Try.prog 30 #[.int .i64 a0, .int .i64 a1] w (Out w (.tuple #[.int .i64 r0, .bool r1])))) (himpl : Hid (∀ (w : World) , Calls Try.prog 31 #[.int .i64 a0, .int .i64 a1] w (Out w (.tuple #[.int .i64 r0, .bool r1])))) :
    Calls Try.prog 8 #[.int .i64 a0, .int .i64 a1] w fun e w' => e = .returned (.bool true) ∧ Below w.heap.size w w' := by
  have HB : Below w.heap.size w w := Below.refl _ _
  go_enter Try.func8, Try.ntmps8
  go_wp2_with fail
  refine (hspec.out _  ).mono ?_
  rintro e w1 ⟨rfl, hb⟩
  replace HB := HB.trans (hb.mono HB.size)
  clear hb
  go_wp2_with fail
  refine (himpl.out _  ).mono ?_
  rintro e w2 ⟨rfl, hb⟩
  replace HB := HB.trans (hb.mono HB.size)
  clear hb
  go_wp2_with fail
  go_ret
  exact ⟨rfl, HB⟩

theorem walk (w : World) (a0 : Int) (a1 : Int) (_l0 : -9223372036854775808 ≤ a0) (_u0 : a0 ≤ 9223372036854775807) (_l1 : -9223372036854775808 ≤ a1) (_u1 : a1 ≤ 9223372036854775807) : Calls Try.prog 8 #[.int .i64 a0, .int .i64 a1] w fun e w' => e = .returned (.bool true) ∧ Below w.heap.size w w' := by
  exact core w a0 a1   _ _  (Lib.hid (fun w => specAfterBoth_any a0 a1 w)) (Lib.hid (fun w => implAfterBoth_any a0 a1 w))
end Go.Proofs.Ytningidjeipiaaa.afterBoth
