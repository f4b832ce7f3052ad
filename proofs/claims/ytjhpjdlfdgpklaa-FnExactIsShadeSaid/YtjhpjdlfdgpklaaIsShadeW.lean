/- The walk of the law FnExactIsShade. No condition. -/
import Derived.Test.YtjhpjdlfdgpklaaShade
import Derived.Test.YtjhpjdlfdgpklaaShadeHelp
namespace Go.Proofs.Ytjhpjdlfdgpklaa.isShade
open Go.RowKit

set_option maxRecDepth 100000 in
set_option maxHeartbeats 2000000 in
theorem core (w : World) (s0 : ShadeR)  (hs : (s0.f1.size) ≤ 1048576) (r0 : Bool)  (hspec : Hid (∀ (w : World) , Calls Try.prog 79 #[.agg #[.int .i64 s0.f0, .string s0.f1, .int .i64 s0.f2, .int .i64 s0.f3, .int .i64 s0.f4]] w (Out w (.bool r0)))) (himpl : Hid (∀ (w : World) , Calls Try.prog 81 #[.agg #[.int .i64 s0.f0, .string s0.f1, .int .i64 s0.f2, .int .i64 s0.f3, .int .i64 s0.f4]] w (Out w (.bool r0)))) :
    Calls Try.prog 11 #[.agg #[.int .i64 s0.f0, .string s0.f1, .int .i64 s0.f2, .int .i64 s0.f3, .int .i64 s0.f4]] w fun e w' => e = .returned (.bool true) ∧ Below w.heap.size w w' := by
  have q0 : 0 ≤ ((s0.f1.size : Nat) : Int) := by omega
  have e00 : (w.alloc (.cells #[.int .i64 s0.f0, .string s0.f1, .int .i64 s0.f2, .int .i64 s0.f3, .int .i64 s0.f4] 90)).cell? ⟨w.heap.size, 0, none⟩ = some (.int .i64 s0.f0) := ((Blk.new w #[.int .i64 s0.f0, .string s0.f1, .int .i64 s0.f2, .int .i64 s0.f3, .int .i64 s0.f4] 90).at_ (q := w.heap.size) (by simp)).cell 0
  have e01 : (w.alloc (.cells #[.int .i64 s0.f0, .string s0.f1, .int .i64 s0.f2, .int .i64 s0.f3, .int .i64 s0.f4] 90)).cell? ⟨w.heap.size, 1, none⟩ = some (.string s0.f1) := ((Blk.new w #[.int .i64 s0.f0, .string s0.f1, .int .i64 s0.f2, .int .i64 s0.f3, .int .i64 s0.f4] 90).at_ (q := w.heap.size) (by simp)).cell 1
  have e02 : (w.alloc (.cells #[.int .i64 s0.f0, .string s0.f1, .int .i64 s0.f2, .int .i64 s0.f3, .int .i64 s0.f4] 90)).cell? ⟨w.heap.size, 2, none⟩ = some (.int .i64 s0.f2) := ((Blk.new w #[.int .i64 s0.f0, .string s0.f1, .int .i64 s0.f2, .int .i64 s0.f3, .int .i64 s0.f4] 90).at_ (q := w.heap.size) (by simp)).cell 2
  have e03 : (w.alloc (.cells #[.int .i64 s0.f0, .string s0.f1, .int .i64 s0.f2, .int .i64 s0.f3, .int .i64 s0.f4] 90)).cell? ⟨w.heap.size, 3, none⟩ = some (.int .i64 s0.f3) := ((Blk.new w #[.int .i64 s0.f0, .string s0.f1, .int .i64 s0.f2, .int .i64 s0.f3, .int .i64 s0.f4] 90).at_ (q := w.heap.size) (by simp)).cell 3
  have e04 : (w.alloc (.cells #[.int .i64 s0.f0, .string s0.f1, .int .i64 s0.f2, .int .i64 s0.f3, .int .i64 s0.f4] 90)).cell? ⟨w.heap.size, 4, none⟩ = some (.int .i64 s0.f4) := ((Blk.new w #[.int .i64 s0.f0, .string s0.f1, .int .i64 s0.f2, .int .i64 s0.f3, .int .i64 s0.f4] 90).at_ (q := w.heap.size) (by simp)).cell 4
  have z0 : w.heap.size < (w.alloc (.cells #[.int .i64 s0.f0, .string s0.f1, .int .i64 s0.f2, .int .i64 s0.f3, .int .i64 s0.f4] 90)).heap.size := by first | (simp; done) | (simp; omega)
  have HB : Below w.heap.size w (w.alloc (.cells #[.int .i64 s0.f0, .string s0.f1, .int .i64 s0.f2, .int .i64 s0.f3, .int .i64 s0.f4] 90)) := (Below.refl _ _).alloc (by first | (simp; done) | (simp; omega)) _
  go_enter Try.func11, Try.ntmps11
  go_wp2_with fail
  refine (szShade_yes s0 _ _ (by omega) (by omega)).mono ?_
  rintro e w1 ⟨rfl, hb⟩
  replace e00 := cells_of hb e00 z0
  replace e01 := cells_of hb e01 z0
  replace e02 := cells_of hb e02 z0
  replace e03 := cells_of hb e03 z0
  replace e04 := cells_of hb e04 z0
  replace HB := HB.trans (hb.mono HB.size)
  replace z0 := Nat.lt_of_lt_of_le z0 hb.size
  clear hb
  go_wp2_with fail
  refine (toShade_any s0 _).mono ?_
  rintro e w2 ⟨rfl, hb⟩
  replace e00 := cells_of hb e00 z0
  replace e01 := cells_of hb e01 z0
  replace e02 := cells_of hb e02 z0
  replace e03 := cells_of hb e03 z0
  replace e04 := cells_of hb e04 z0
  replace HB := HB.trans (hb.mono HB.size)
  replace z0 := Nat.lt_of_lt_of_le z0 hb.size
  clear hb
  go_wp2_with fail
  refine (hspec.out _  ).mono ?_
  rintro e w3 ⟨rfl, hb⟩
  replace e00 := cells_of hb e00 z0
  replace e01 := cells_of hb e01 z0
  replace e02 := cells_of hb e02 z0
  replace e03 := cells_of hb e03 z0
  replace e04 := cells_of hb e04 z0
  replace HB := HB.trans (hb.mono HB.size)
  replace z0 := Nat.lt_of_lt_of_le z0 hb.size
  clear hb
  go_wp2_with fail
  refine (toShade_any s0 _).mono ?_
  rintro e w4 ⟨rfl, hb⟩
  replace e00 := cells_of hb e00 z0
  replace e01 := cells_of hb e01 z0
  replace e02 := cells_of hb e02 z0
  replace e03 := cells_of hb e03 z0
  replace e04 := cells_of hb e04 z0
  replace HB := HB.trans (hb.mono HB.size)
  replace z0 := Nat.lt_of_lt_of_le z0 hb.size
  clear hb
  go_wp2_with fail
  refine (himpl.out _  ).mono ?_
  rintro e w5 ⟨rfl, hb⟩
  replace e00 := cells_of hb e00 z0
  replace e01 := cells_of hb e01 z0
  replace e02 := cells_of hb e02 z0
  replace e03 := cells_of hb e03 z0
  replace e04 := cells_of hb e04 z0
  replace HB := HB.trans (hb.mono HB.size)
  replace z0 := Nat.lt_of_lt_of_le z0 hb.size
  clear hb
  go_wp2_with fail
  go_ret
  exact ⟨rfl, HB⟩

set_option maxRecDepth 100000 in
set_option maxHeartbeats 2000000 in
theorem big (w : World) (s0 : ShadeR) (o0 : s0.ok) (hs : ¬ (s0.f1.size) ≤ 1048576) : Calls Try.prog 11 #[.agg #[.int .i64 s0.f0, .string s0.f1, .int .i64 s0.f2, .int .i64 s0.f3, .int .i64 s0.f4]] w fun e w' => e = .returned (.bool true) ∧ Below w.heap.size w w' := by
  have q0 : 0 ≤ ((s0.f1.size : Nat) : Int) := by omega
  have HB : Below w.heap.size w (w.alloc (.cells #[.int .i64 s0.f0, .string s0.f1, .int .i64 s0.f2, .int .i64 s0.f3, .int .i64 s0.f4] 90)) := (Below.refl _ _).alloc (by first | (simp; done) | (simp; omega)) _
  have e00 : (w.alloc (.cells #[.int .i64 s0.f0, .string s0.f1, .int .i64 s0.f2, .int .i64 s0.f3, .int .i64 s0.f4] 90)).cell? ⟨w.heap.size, 0, none⟩ = some (.int .i64 s0.f0) := ((Blk.new w #[.int .i64 s0.f0, .string s0.f1, .int .i64 s0.f2, .int .i64 s0.f3, .int .i64 s0.f4] 90).at_ (q := w.heap.size) (by simp)).cell 0
  have e01 : (w.alloc (.cells #[.int .i64 s0.f0, .string s0.f1, .int .i64 s0.f2, .int .i64 s0.f3, .int .i64 s0.f4] 90)).cell? ⟨w.heap.size, 1, none⟩ = some (.string s0.f1) := ((Blk.new w #[.int .i64 s0.f0, .string s0.f1, .int .i64 s0.f2, .int .i64 s0.f3, .int .i64 s0.f4] 90).at_ (q := w.heap.size) (by simp)).cell 1
  have e02 : (w.alloc (.cells #[.int .i64 s0.f0, .string s0.f1, .int .i64 s0.f2, .int .i64 s0.f3, .int .i64 s0.f4] 90)).cell? ⟨w.heap.size, 2, none⟩ = some (.int .i64 s0.f2) := ((Blk.new w #[.int .i64 s0.f0, .string s0.f1, .int .i64 s0.f2, .int .i64 s0.f3, .int .i64 s0.f4] 90).at_ (q := w.heap.size) (by simp)).cell 2
  have e03 : (w.alloc (.cells #[.int .i64 s0.f0, .string s0.f1, .int .i64 s0.f2, .int .i64 s0.f3, .int .i64 s0.f4] 90)).cell? ⟨w.heap.size, 3, none⟩ = some (.int .i64 s0.f3) := ((Blk.new w #[.int .i64 s0.f0, .string s0.f1, .int .i64 s0.f2, .int .i64 s0.f3, .int .i64 s0.f4] 90).at_ (q := w.heap.size) (by simp)).cell 3
  have e04 : (w.alloc (.cells #[.int .i64 s0.f0, .string s0.f1, .int .i64 s0.f2, .int .i64 s0.f3, .int .i64 s0.f4] 90)).cell? ⟨w.heap.size, 4, none⟩ = some (.int .i64 s0.f4) := ((Blk.new w #[.int .i64 s0.f0, .string s0.f1, .int .i64 s0.f2, .int .i64 s0.f3, .int .i64 s0.f4] 90).at_ (q := w.heap.size) (by simp)).cell 4
  have z0 : w.heap.size < (w.alloc (.cells #[.int .i64 s0.f0, .string s0.f1, .int .i64 s0.f2, .int .i64 s0.f3, .int .i64 s0.f4] 90)).heap.size := by first | (simp; done) | (simp; omega)
  go_enter Try.func11, Try.ntmps11
  go_wp2_with fail
  refine (szShade_no s0 _ _ o0 (by omega) (by omega) (by omega)).mono ?_
  rintro e w1 ⟨rfl, hb⟩
  replace e00 := cells_of hb e00 z0
  replace e01 := cells_of hb e01 z0
  replace e02 := cells_of hb e02 z0
  replace e03 := cells_of hb e03 z0
  replace e04 := cells_of hb e04 z0
  replace HB := HB.trans (hb.mono HB.size)
  replace z0 := Nat.lt_of_lt_of_le z0 hb.size
  clear hb
  go_wp2_with fail
  go_ret
  exact ⟨rfl, HB⟩
theorem walk (w : World) (s0 : ShadeR) (o0 : s0.ok) : Calls Try.prog 11 #[.agg #[.int .i64 s0.f0, .string s0.f1, .int .i64 s0.f2, .int .i64 s0.f3, .int .i64 s0.f4]] w fun e w' => e = .returned (.bool true) ∧ Below w.heap.size w w' := by
  by_cases hs : (s0.f1.size) ≤ 1048576
  · exact core w s0  hs _  (Lib.hid (fun w => specIsShade_any s0 w o0.2.1)) (Lib.hid (fun w => implIsShade_any s0 w o0.2.1))
  · exact big w s0 o0 hs
end Go.Proofs.Ytjhpjdlfdgpklaa.isShade
