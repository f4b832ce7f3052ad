/- The walk of the law FnExactUndoOf. No condition. -/
import Derived.Test.YtningidjeipiaaaBoth
namespace Go.Proofs.Ytningidjeipiaaa.undoOf
open Go.RowKit

set_option maxRecDepth 100000 in
set_option maxHeartbeats 2000000 in
theorem core (w : World) (a0 : Int)   (r0 : Int) (r1 : Bool)  (hspec : Hid (∀ (w : World) , Calls Try.prog 32 #[.int .i64 a0] w (Out w (.tuple #[.int .i64 r0, .bool r1])))) (himpl : Hid (∀ (w : World) , Calls Try.prog 33 #[.int .i64 a0] w (Out w (.tuple #[.int .i64 r0, .bool r1])))) :
    Calls Try.prog 9 #[.int .i64 a0] w fun e w' => e = .returned (.bool true) ∧ Below w.heap.size w w' := by
  have HB : Below w.heap.size w w := Below.refl _ _
  go_enter Try.func9, Try.ntmps9
  go_wp2_with fail
  refine (hspec.out _  ).mono ?_
  rintro e w1 ⟨rfl, hb⟩
  replace HB := HB.trans (hb.mono HB.size)
  clear hb
  go_wp2_with fail
  refine (himpl.out _  ).mono ?_
  rintro e w2 ⟨rfl, hb⟩
  replace HB := HB.trans (hb.mono HB.size)
  clear hb
  go_wp2_with fail
  go_ret
  exact ⟨rfl, HB⟩

theorem walk (w : World) (a0 : Int) (_l0 : -9223372036854775808 ≤ a0) (_u0 : a0 ≤ 9223372036854775807) : Calls Try.prog 9 #[.int .i64 a0] w fun e w' => e = .returned (.bool true) ∧ Below w.heap.size w w' := by
  exact core w a0   _ _  (Lib.hid (fun w => specUndoOf_any a0 w)) (Lib.hid (fun w => implUndoOf_any a0 w))
end Go.Proofs.Ytningidjeipiaaa.undoOf
