/- The walk of the law FnExactShadeDistance. No condition. -/
import Derived.Test.YtjhpjdlfdgpklabShadeDist
import Derived.Test.YtjhpjdlfdgpklabShadeHelp
namespace Go.Proofs.Ytjhpjdlfdgpklab.shadeDistance
open Go.RowKit

set_option maxRecDepth 100000 in
set_option maxHeartbeats 2000000 in
theorem core (w : World) (s0 : ShadeR) (s1 : ShadeR)  (hs : (s0.f1.size) + (s1.f1.size) ≤ 1048576) (r0 : Int) (r1 : Bool)  (hspec : Hid (∀ (w : World) , Calls Try.prog 13 #[.agg #[.int .i64 s0.f0, .string s0.f1, .int .i64 s0.f2, .int .i64 s0.f3, .int .i64 s0.f4], .agg #[.int .i64 s1.f0, .string s1.f1, .int .i64 s1.f2, .int .i64 s1.f3, .int .i64 s1.f4]] w (Out w (.tuple #[.int .i64 r0, .bool r1])))) (himpl : Hid (∀ (w : World) , Calls Try.prog 15 #[.agg #[.int .i64 s0.f0, .string s0.f1, .int .i64 s0.f2, .int .i64 s0.f3, .int .i64 s0.f4], .agg #[.int .i64 s1.f0, .string s1.f1, .int .i64 s1.f2, .int .i64 s1.f3, .int .i64 s1.f4]] w (Out w (.tuple #[.int .i64 r0, .bool r1])))) :
    Calls Try.prog 4 #[.agg #[.int .i64 s0.f0, .string s0.f1, .int .i64 s0.f2, .int .i64 s0.f3, .int .i64 s0.f4], .agg #[.int .i64 s1.f0, .string s1.f1, .int .i64 s1.f2, .int .i64 s1.f3, .int .i64 s1.f4]] w fun e w' => e = .returned (.bool true) ∧ Below w.heap.size w w' := by
  have q0 : 0 ≤ ((s0.f1.size : Nat) : Int) := by omega
  have q1 : 0 ≤ ((s1.f1.size : Nat) : Int) := by omega
  have e00 : ((w.alloc (.cells #[.int .i64 s0.f0, .string s0.f1, .int .i64 s0.f2, .int .i64 s0.f3, .int .i64 s0.f4] 26)).alloc (.cells #[.int .i64 s1.f0, .string s1.f1, .int .i64 s1.f2, .int .i64 s1.f3, .int .i64 s1.f4] 26)).cell? ⟨w.heap.size, 0, none⟩ = some (.int .i64 s0.f0) := (((Blk.new w #[.int .i64 s0.f0, .string s0.f1, .int .i64 s0.f2, .int .i64 s0.f3, .int .i64 s0.f4] 26).alloc (.cells #[.int .i64 s1.f0, .string s1.f1, .int .i64 s1.f2, .int .i64 s1.f3, .int .i64 s1.f4] 26)).at_ (q := w.heap.size) (by simp)).cell 0
  have e01 : ((w.alloc (.cells #[.int .i64 s0.f0, .string s0.f1, .int .i64 s0.f2, .int .i64 s0.f3, .int .i64 s0.f4] 26)).alloc (.cells #[.int .i64 s1.f0, .string s1.f1, .int .i64 s1.f2, .int .i64 s1.f3, .int .i64 s1.f4] 26)).cell? ⟨w.heap.size, 1, none⟩ = some (.string s0.f1) := (((Blk.new w #[.int .i64 s0.f0, .string s0.f1, .int .i64 s0.f2, .int .i64 s0.f3, .int .i64 s0.f4] 26).alloc (.cells #[.int .i64 s1.f0, .string s1.f1, .int .i64 s1.f2, .int .i64 s1.f3, .int .i64 s1.f4] 26)).at_ (q := w.heap.size) (by simp)).cell 1
  have e02 : ((w.alloc (.cells #[.int .i64 s0.f0, .string s0.f1, .int .i64 s0.f2, .int .i64 s0.f3, .int .i64 s0.f4] 26)).alloc (.cells #[.int .i64 s1.f0, .string s1.f1, .int .i64 s1.f2, .int .i64 s1.f3, .int .i64 s1.f4] 26)).cell? ⟨w.heap.size, 2, none⟩ = some (.int .i64 s0.f2) := (((Blk.new w #[.int .i64 s0.f0, .string s0.f1, .int .i64 s0.f2, .int .i64 s0.f3, .int .i64 s0.f4] 26).alloc (.cells #[.int .i64 s1.f0, .string s1.f1, .int .i64 s1.f2, .int .i64 s1.f3, .int .i64 s1.f4] 26)).at_ (q := w.heap.size) (by simp)).cell 2
  have e03 : ((w.alloc (.cells #[.int .i64 s0.f0, .string s0.f1, .int .i64 s0.f2, .int .i64 s0.f3, .int .i64 s0.f4] 26)).alloc (.cells #[.int .i64 s1.f0, .string s1.f1, .int .i64 s1.f2, .int .i64 s1.f3, .int .i64 s1.f4] 26)).cell? ⟨w.heap.size, 3, none⟩ = some (.int .i64 s0.f3) := (((Blk.new w #[.int .i64 s0.f0, .string s0.f1, .int .i64 s0.f2, .int .i64 s0.f3, .int .i64 s0.f4] 26).alloc (.cells #[.int .i64 s1.f0, .string s1.f1, .int .i64 s1.f2, .int .i64 s1.f3, .int .i64 s1.f4] 26)).at_ (q := w.heap.size) (by simp)).cell 3
  have e04 : ((w.alloc (.cells #[.int .i64 s0.f0, .string s0.f1, .int .i64 s0.f2, .int .i64 s0.f3, .int .i64 s0.f4] 26)).alloc (.cells #[.int .i64 s1.f0, .string s1.f1, .int .i64 s1.f2, .int .i64 s1.f3, .int .i64 s1.f4] 26)).cell? ⟨w.heap.size, 4, none⟩ = some (.int .i64 s0.f4) := (((Blk.new w #[.int .i64 s0.f0, .string s0.f1, .int .i64 s0.f2, .int .i64 s0.f3, .int .i64 s0.f4] 26).alloc (.cells #[.int .i64 s1.f0, .string s1.f1, .int .i64 s1.f2, .int .i64 s1.f3, .int .i64 s1.f4] 26)).at_ (q := w.heap.size) (by simp)).cell 4
  have z0 : w.heap.size < ((w.alloc (.cells #[.int .i64 s0.f0, .string s0.f1, .int .i64 s0.f2, .int .i64 s0.f3, .int .i64 s0.f4] 26)).alloc (.cells #[.int .i64 s1.f0, .string s1.f1, .int .i64 s1.f2, .int .i64 s1.f3, .int .i64 s1.f4] 26)).heap.size := by first | (simp; done) | (simp; omega)
  have e10 : ((w.alloc (.cells #[.int .i64 s0.f0, .string s0.f1, .int .i64 s0.f2, .int .i64 s0.f3, .int .i64 s0.f4] 26)).alloc (.cells #[.int .i64 s1.f0, .string s1.f1, .int .i64 s1.f2, .int .i64 s1.f3, .int .i64 s1.f4] 26)).cell? ⟨w.heap.size + 1, 0, none⟩ = some (.int .i64 s1.f0) := ((Blk.new (w.alloc (.cells #[.int .i64 s0.f0, .string s0.f1, .int .i64 s0.f2, .int .i64 s0.f3, .int .i64 s0.f4] 26)) #[.int .i64 s1.f0, .string s1.f1, .int .i64 s1.f2, .int .i64 s1.f3, .int .i64 s1.f4] 26).at_ (q := w.heap.size + 1) (by simp)).cell 0
  have e11 : ((w.alloc (.cells #[.int .i64 s0.f0, .string s0.f1, .int .i64 s0.f2, .int .i64 s0.f3, .int .i64 s0.f4] 26)).alloc (.cells #[.int .i64 s1.f0, .string s1.f1, .int .i64 s1.f2, .int .i64 s1.f3, .int .i64 s1.f4] 26)).cell? ⟨w.heap.size + 1, 1, none⟩ = some (.string s1.f1) := ((Blk.new (w.alloc (.cells #[.int .i64 s0.f0, .string s0.f1, .int .i64 s0.f2, .int .i64 s0.f3, .int .i64 s0.f4] 26)) #[.int .i64 s1.f0, .string s1.f1, .int .i64 s1.f2, .int .i64 s1.f3, .int .i64 s1.f4] 26).at_ (q := w.heap.size + 1) (by simp)).cell 1
  have e12 : ((w.alloc (.cells #[.int .i64 s0.f0, .string s0.f1, .int .i64 s0.f2, .int .i64 s0.f3, .int .i64 s0.f4] 26)).alloc (.cells #[.int .i64 s1.f0, .string s1.f1, .int .i64 s1.f2, .int .i64 s1.f3, .int .i64 s1.f4] 26)).cell? ⟨w.heap.size + 1, 2, none⟩ = some (.int .i64 s1.f2) := ((Blk.new (w.alloc (.cells #[.int .i64 s0.f0, .string s0.f1, .int .i64 s0.f2, .int .i64 s0.f3, .int .i64 s0.f4] 26)) #[.int .i64 s1.f0, .string s1.f1, .int .i64 s1.f2, .int .i64 s1.f3, .int .i64 s1.f4] 26).at_ (q := w.heap.size + 1) (by simp)).cell 2
  have e13 : ((w.alloc (.cells #[.int .i64 s0.f0, .string s0.f1, .int .i64 s0.f2, .int .i64 s0.f3, .int .i64 s0.f4] 26)).alloc (.cells #[.int .i64 s1.f0, .string s1.f1, .int .i64 s1.f2, .int .i64 s1.f3, .int .i64 s1.f4] 26)).cell? ⟨w.heap.size + 1, 3, none⟩ = some (.int .i64 s1.f3) := ((Blk.new (w.alloc (.cells #[.int .i64 s0.f0, .string s0.f1, .int .i64 s0.f2, .int .i64 s0.f3, .int .i64 s0.f4] 26)) #[.int .i64 s1.f0, .string s1.f1, .int .i64 s1.f2, .int .i64 s1.f3, .int .i64 s1.f4] 26).at_ (q := w.heap.size + 1) (by simp)).cell 3
  have e14 : ((w.alloc (.cells #[.int .i64 s0.f0, .string s0.f1, .int .i64 s0.f2, .int .i64 s0.f3, .int .i64 s0.f4] 26)).alloc (.cells #[.int .i64 s1.f0, .string s1.f1, .int .i64 s1.f2, .int .i64 s1.f3, .int .i64 s1.f4] 26)).cell? ⟨w.heap.size + 1, 4, none⟩ = some (.int .i64 s1.f4) := ((Blk.new (w.alloc (.cells #[.int .i64 s0.f0, .string s0.f1, .int .i64 s0.f2, .int .i64 s0.f3, .int .i64 s0.f4] 26)) #[.int .i64 s1.f0, .string s1.f1, .int .i64 s1.f2, .int .i64 s1.f3, .int .i64 s1.f4] 26).at_ (q := w.heap.size + 1) (by simp)).cell 4
  have z1 : w.heap.size + 1 < ((w.alloc (.cells #[.int .i64 s0.f0, .string s0.f1, .int .i64 s0.f2, .int .i64 s0.f3, .int .i64 s0.f4] 26)).alloc (.cells #[.int .i64 s1.f0, .string s1.f1, .int .i64 s1.f2, .int .i64 s1.f3, .int .i64 s1.f4] 26)).heap.size := by first | (simp; done) | (simp; omega)
  have HB : Below w.heap.size w ((w.alloc (.cells #[.int .i64 s0.f0, .string s0.f1, .int .i64 s0.f2, .int .i64 s0.f3, .int .i64 s0.f4] 26)).alloc (.cells #[.int .i64 s1.f0, .string s1.f1, .int .i64 s1.f2, .int .i64 s1.f3, .int .i64 s1.f4] 26)) := ((Below.refl _ _).alloc (by first | (simp; done) | (simp; omega)) _).alloc (by first | (simp; done) | (simp; omega)) _
  go_enter Try.func4, Try.ntmps4
  go_wp2_with fail
  refine (szShade_yes s0 _ _ (by omega) (by omega)).mono ?_
  rintro e w1 ⟨rfl, hb⟩
  replace e00 := cells_of hb e00 z0
  replace e01 := cells_of hb e01 z0
  replace e02 := cells_of hb e02 z0
  replace e03 := cells_of hb e03 z0
  replace e04 := cells_of hb e04 z0
  replace e10 := cells_of hb e10 z1
  replace e11 := cells_of hb e11 z1
  replace e12 := cells_of hb e12 z1
  replace e13 := cells_of hb e13 z1
  replace e14 := cells_of hb e14 z1
  replace HB := HB.trans (hb.mono HB.size)
  replace z0 := Nat.lt_of_lt_of_le z0 hb.size
  replace z1 := Nat.lt_of_lt_of_le z1 hb.size
  clear hb
  go_wp2_with fail
  refine (szShade_yes s1 _ _ (by omega) (by omega)).mono ?_
  rintro e w2 ⟨rfl, hb⟩
  replace e00 := cells_of hb e00 z0
  replace e01 := cells_of hb e01 z0
  replace e02 := cells_of hb e02 z0
  replace e03 := cells_of hb e03 z0
  replace e04 := cells_of hb e04 z0
  replace e10 := cells_of hb e10 z1
  replace e11 := cells_of hb e11 z1
  replace e12 := cells_of hb e12 z1
  replace e13 := cells_of hb e13 z1
  replace e14 := cells_of hb e14 z1
  replace HB := HB.trans (hb.mono HB.size)
  replace z0 := Nat.lt_of_lt_of_le z0 hb.size
  replace z1 := Nat.lt_of_lt_of_le z1 hb.size
  clear hb
  go_wp2
  go_region_held3 (fun w' => w'.cell? ⟨w.heap.size, 0, none⟩ = some (.int .i64 s0.f0) ∧ w'.cell? ⟨w.heap.size, 1, none⟩ = some (.string s0.f1) ∧ w'.cell? ⟨w.heap.size, 2, none⟩ = some (.int .i64 s0.f2) ∧ w'.cell? ⟨w.heap.size, 3, none⟩ = some (.int .i64 s0.f3) ∧ w'.cell? ⟨w.heap.size, 4, none⟩ = some (.int .i64 s0.f4) ∧ w'.cell? ⟨w.heap.size + 1, 0, none⟩ = some (.int .i64 s1.f0) ∧ w'.cell? ⟨w.heap.size + 1, 1, none⟩ = some (.string s1.f1) ∧ w'.cell? ⟨w.heap.size + 1, 2, none⟩ = some (.int .i64 s1.f2) ∧ w'.cell? ⟨w.heap.size + 1, 3, none⟩ = some (.int .i64 s1.f3) ∧ w'.cell? ⟨w.heap.size + 1, 4, none⟩ = some (.int .i64 s1.f4)) (first | exact ⟨e00, e01, e02, e03, e04, e10, e11, e12, e13, e14⟩ | go_keep) (first | (go_at_call 14; (with_reducible refine (toShade_any s0 _).mono ?_); rintro e w1 ⟨rfl, hb⟩; (try replace hb := below_drew' hb); replace e00 := cells_of hb e00 z0; replace e01 := cells_of hb e01 z0; replace e02 := cells_of hb e02 z0; replace e03 := cells_of hb e03 z0; replace e04 := cells_of hb e04 z0; replace e10 := cells_of hb e10 z1; replace e11 := cells_of hb e11 z1; replace e12 := cells_of hb e12 z1; replace e13 := cells_of hb e13 z1; replace e14 := cells_of hb e14 z1; replace HB := HB.trans (hb.mono HB.size); replace z0 := Nat.lt_of_lt_of_le z0 hb.size; replace z1 := Nat.lt_of_lt_of_le z1 hb.size; clear hb) | (go_at_call 14; (with_reducible refine (toShade_any s1 _).mono ?_); rintro e w1 ⟨rfl, hb⟩; (try replace hb := below_drew' hb); replace e00 := cells_of hb e00 z0; replace e01 := cells_of hb e01 z0; replace e02 := cells_of hb e02 z0; replace e03 := cells_of hb e03 z0; replace e04 := cells_of hb e04 z0; replace e10 := cells_of hb e10 z1; replace e11 := cells_of hb e11 z1; replace e12 := cells_of hb e12 z1; replace e13 := cells_of hb e13 z1; replace e14 := cells_of hb e14 z1; replace HB := HB.trans (hb.mono HB.size); replace z0 := Nat.lt_of_lt_of_le z0 hb.size; replace z1 := Nat.lt_of_lt_of_le z1 hb.size; clear hb) | (go_at_call 13; (with_reducible refine (hspec.out _).mono ?_); rintro e w1 ⟨rfl, hb⟩; (try replace hb := below_drew' hb); replace e00 := cells_of hb e00 z0; replace e01 := cells_of hb e01 z0; replace e02 := cells_of hb e02 z0; replace e03 := cells_of hb e03 z0; replace e04 := cells_of hb e04 z0; replace e10 := cells_of hb e10 z1; replace e11 := cells_of hb e11 z1; replace e12 := cells_of hb e12 z1; replace e13 := cells_of hb e13 z1; replace e14 := cells_of hb e14 z1; replace HB := HB.trans (hb.mono HB.size); replace z0 := Nat.lt_of_lt_of_le z0 hb.size; replace z1 := Nat.lt_of_lt_of_le z1 hb.size; clear hb))
  all_goals
    go_wp2
    go_region_held3 (fun w' => w'.cell? ⟨w.heap.size, 0, none⟩ = some (.int .i64 s0.f0) ∧ w'.cell? ⟨w.heap.size, 1, none⟩ = some (.string s0.f1) ∧ w'.cell? ⟨w.heap.size, 2, none⟩ = some (.int .i64 s0.f2) ∧ w'.cell? ⟨w.heap.size, 3, none⟩ = some (.int .i64 s0.f3) ∧ w'.cell? ⟨w.heap.size, 4, none⟩ = some (.int .i64 s0.f4) ∧ w'.cell? ⟨w.heap.size + 1, 0, none⟩ = some (.int .i64 s1.f0) ∧ w'.cell? ⟨w.heap.size + 1, 1, none⟩ = some (.string s1.f1) ∧ w'.cell? ⟨w.heap.size + 1, 2, none⟩ = some (.int .i64 s1.f2) ∧ w'.cell? ⟨w.heap.size + 1, 3, none⟩ = some (.int .i64 s1.f3) ∧ w'.cell? ⟨w.heap.size + 1, 4, none⟩ = some (.int .i64 s1.f4)) (first | exact ⟨e00, e01, e02, e03, e04, e10, e11, e12, e13, e14⟩ | go_keep) (first | (go_at_call 14; (with_reducible refine (toShade_any s0 _).mono ?_); rintro e w1 ⟨rfl, hb⟩; (try replace hb := below_drew' hb); replace e00 := cells_of hb e00 z0; replace e01 := cells_of hb e01 z0; replace e02 := cells_of hb e02 z0; replace e03 := cells_of hb e03 z0; replace e04 := cells_of hb e04 z0; replace e10 := cells_of hb e10 z1; replace e11 := cells_of hb e11 z1; replace e12 := cells_of hb e12 z1; replace e13 := cells_of hb e13 z1; replace e14 := cells_of hb e14 z1; replace HB := HB.trans (hb.mono HB.size); replace z0 := Nat.lt_of_lt_of_le z0 hb.size; replace z1 := Nat.lt_of_lt_of_le z1 hb.size; clear hb) | (go_at_call 14; (with_reducible refine (toShade_any s1 _).mono ?_); rintro e w1 ⟨rfl, hb⟩; (try replace hb := below_drew' hb); replace e00 := cells_of hb e00 z0; replace e01 := cells_of hb e01 z0; replace e02 := cells_of hb e02 z0; replace e03 := cells_of hb e03 z0; replace e04 := cells_of hb e04 z0; replace e10 := cells_of hb e10 z1; replace e11 := cells_of hb e11 z1; replace e12 := cells_of hb e12 z1; replace e13 := cells_of hb e13 z1; replace e14 := cells_of hb e14 z1; replace HB := HB.trans (hb.mono HB.size); replace z0 := Nat.lt_of_lt_of_le z0 hb.size; replace z1 := Nat.lt_of_lt_of_le z1 hb.size; clear hb) | (go_at_call 15; (with_reducible refine (himpl.out _).mono ?_); rintro e w1 ⟨rfl, hb⟩; (try replace hb := below_drew' hb); replace e00 := cells_of hb e00 z0; replace e01 := cells_of hb e01 z0; replace e02 := cells_of hb e02 z0; replace e03 := cells_of hb e03 z0; replace e04 := cells_of hb e04 z0; replace e10 := cells_of hb e10 z1; replace e11 := cells_of hb e11 z1; replace e12 := cells_of hb e12 z1; replace e13 := cells_of hb e13 z1; replace e14 := cells_of hb e14 z1; replace HB := HB.trans (hb.mono HB.size); replace z0 := Nat.lt_of_lt_of_le z0 hb.size; replace z1 := Nat.lt_of_lt_of_le z1 hb.size; clear hb))
    all_goals
      go_wp2_with fail
      go_ret
      exact ⟨rfl, HB⟩

set_option maxRecDepth 100000 in
set_option maxHeartbeats 2000000 in
theorem big (w : World) (s0 : ShadeR) (s1 : ShadeR) (o0 : s0.ok) (o1 : s1.ok) (hs : ¬ (s0.f1.size) + (s1.f1.size) ≤ 1048576) : Calls Try.prog 4 #[.agg #[.int .i64 s0.f0, .string s0.f1, .int .i64 s0.f2, .int .i64 s0.f3, .int .i64 s0.f4], .agg #[.int .i64 s1.f0, .string s1.f1, .int .i64 s1.f2, .int .i64 s1.f3, .int .i64 s1.f4]] w fun e w' => e = .returned (.bool true) ∧ Below w.heap.size w w' := by
  by_cases hf : s0.f1.size ≤ 1048576
  · have q0 : 0 ≤ ((s0.f1.size : Nat) : Int) := by omega
    have q1 : 0 ≤ ((s1.f1.size : Nat) : Int) := by omega
    have HB : Below w.heap.size w ((w.alloc (.cells #[.int .i64 s0.f0, .string s0.f1, .int .i64 s0.f2, .int .i64 s0.f3, .int .i64 s0.f4] 26)).alloc (.cells #[.int .i64 s1.f0, .string s1.f1, .int .i64 s1.f2, .int .i64 s1.f3, .int .i64 s1.f4] 26)) := ((Below.refl _ _).alloc (by first | (simp; done) | (simp; omega)) _).alloc (by first | (simp; done) | (simp; omega)) _
    have e00 : ((w.alloc (.cells #[.int .i64 s0.f0, .string s0.f1, .int .i64 s0.f2, .int .i64 s0.f3, .int .i64 s0.f4] 26)).alloc (.cells #[.int .i64 s1.f0, .string s1.f1, .int .i64 s1.f2, .int .i64 s1.f3, .int .i64 s1.f4] 26)).cell? ⟨w.heap.size, 0, none⟩ = some (.int .i64 s0.f0) := (((Blk.new w #[.int .i64 s0.f0, .string s0.f1, .int .i64 s0.f2, .int .i64 s0.f3, .int .i64 s0.f4] 26).alloc (.cells #[.int .i64 s1.f0, .string s1.f1, .int .i64 s1.f2, .int .i64 s1.f3, .int .i64 s1.f4] 26)).at_ (q := w.heap.size) (by simp)).cell 0
    have e01 : ((w.alloc (.cells #[.int .i64 s0.f0, .string s0.f1, .int .i64 s0.f2, .int .i64 s0.f3, .int .i64 s0.f4] 26)).alloc (.cells #[.int .i64 s1.f0, .string s1.f1, .int .i64 s1.f2, .int .i64 s1.f3, .int .i64 s1.f4] 26)).cell? ⟨w.heap.size, 1, none⟩ = some (.string s0.f1) := (((Blk.new w #[.int .i64 s0.f0, .string s0.f1, .int .i64 s0.f2, .int .i64 s0.f3, .int .i64 s0.f4] 26).alloc (.cells #[.int .i64 s1.f0, .string s1.f1, .int .i64 s1.f2, .int .i64 s1.f3, .int .i64 s1.f4] 26)).at_ (q := w.heap.size) (by simp)).cell 1
    have e02 : ((w.alloc (.cells #[.int .i64 s0.f0, .string s0.f1, .int .i64 s0.f2, .int .i64 s0.f3, .int .i64 s0.f4] 26)).alloc (.cells #[.int .i64 s1.f0, .string s1.f1, .int .i64 s1.f2, .int .i64 s1.f3, .int .i64 s1.f4] 26)).cell? ⟨w.heap.size, 2, none⟩ = some (.int .i64 s0.f2) := (((Blk.new w #[.int .i64 s0.f0, .string s0.f1, .int .i64 s0.f2, .int .i64 s0.f3, .int .i64 s0.f4] 26).alloc (.cells #[.int .i64 s1.f0, .string s1.f1, .int .i64 s1.f2, .int .i64 s1.f3, .int .i64 s1.f4] 26)).at_ (q := w.heap.size) (by simp)).cell 2
    have e03 : ((w.alloc (.cells #[.int .i64 s0.f0, .string s0.f1, .int .i64 s0.f2, .int .i64 s0.f3, .int .i64 s0.f4] 26)).alloc (.cells #[.int .i64 s1.f0, .string s1.f1, .int .i64 s1.f2, .int .i64 s1.f3, .int .i64 s1.f4] 26)).cell? ⟨w.heap.size, 3, none⟩ = some (.int .i64 s0.f3) := (((Blk.new w #[.int .i64 s0.f0, .string s0.f1, .int .i64 s0.f2, .int .i64 s0.f3, .int .i64 s0.f4] 26).alloc (.cells #[.int .i64 s1.f0, .string s1.f1, .int .i64 s1.f2, .int .i64 s1.f3, .int .i64 s1.f4] 26)).at_ (q := w.heap.size) (by simp)).cell 3
    have e04 : ((w.alloc (.cells #[.int .i64 s0.f0, .string s0.f1, .int .i64 s0.f2, .int .i64 s0.f3, .int .i64 s0.f4] 26)).alloc (.cells #[.int .i64 s1.f0, .string s1.f1, .int .i64 s1.f2, .int .i64 s1.f3, .int .i64 s1.f4] 26)).cell? ⟨w.heap.size, 4, none⟩ = some (.int .i64 s0.f4) := (((Blk.new w #[.int .i64 s0.f0, .string s0.f1, .int .i64 s0.f2, .int .i64 s0.f3, .int .i64 s0.f4] 26).alloc (.cells #[.int .i64 s1.f0, .string s1.f1, .int .i64 s1.f2, .int .i64 s1.f3, .int .i64 s1.f4] 26)).at_ (q := w.heap.size) (by simp)).cell 4
    have z0 : w.heap.size < ((w.alloc (.cells #[.int .i64 s0.f0, .string s0.f1, .int .i64 s0.f2, .int .i64 s0.f3, .int .i64 s0.f4] 26)).alloc (.cells #[.int .i64 s1.f0, .string s1.f1, .int .i64 s1.f2, .int .i64 s1.f3, .int .i64 s1.f4] 26)).heap.size := by first | (simp; done) | (simp; omega)
    have e10 : ((w.alloc (.cells #[.int .i64 s0.f0, .string s0.f1, .int .i64 s0.f2, .int .i64 s0.f3, .int .i64 s0.f4] 26)).alloc (.cells #[.int .i64 s1.f0, .string s1.f1, .int .i64 s1.f2, .int .i64 s1.f3, .int .i64 s1.f4] 26)).cell? ⟨w.heap.size + 1, 0, none⟩ = some (.int .i64 s1.f0) := ((Blk.new (w.alloc (.cells #[.int .i64 s0.f0, .string s0.f1, .int .i64 s0.f2, .int .i64 s0.f3, .int .i64 s0.f4] 26)) #[.int .i64 s1.f0, .string s1.f1, .int .i64 s1.f2, .int .i64 s1.f3, .int .i64 s1.f4] 26).at_ (q := w.heap.size + 1) (by simp)).cell 0
    have e11 : ((w.alloc (.cells #[.int .i64 s0.f0, .string s0.f1, .int .i64 s0.f2, .int .i64 s0.f3, .int .i64 s0.f4] 26)).alloc (.cells #[.int .i64 s1.f0, .string s1.f1, .int .i64 s1.f2, .int .i64 s1.f3, .int .i64 s1.f4] 26)).cell? ⟨w.heap.size + 1, 1, none⟩ = some (.string s1.f1) := ((Blk.new (w.alloc (.cells #[.int .i64 s0.f0, .string s0.f1, .int .i64 s0.f2, .int .i64 s0.f3, .int .i64 s0.f4] 26)) #[.int .i64 s1.f0, .string s1.f1, .int .i64 s1.f2, .int .i64 s1.f3, .int .i64 s1.f4] 26).at_ (q := w.heap.size + 1) (by simp)).cell 1
    have e12 : ((w.alloc (.cells #[.int .i64 s0.f0, .string s0.f1, .int .i64 s0.f2, .int .i64 s0.f3, .int .i64 s0.f4] 26)).alloc (.cells #[.int .i64 s1.f0, .string s1.f1, .int .i64 s1.f2, .int .i64 s1.f3, .int .i64 s1.f4] 26)).cell? ⟨w.heap.size + 1, 2, none⟩ = some (.int .i64 s1.f2) := ((Blk.new (w.alloc (.cells #[.int .i64 s0.f0, .string s0.f1, .int .i64 s0.f2, .int .i64 s0.f3, .int .i64 s0.f4] 26)) #[.int .i64 s1.f0, .string s1.f1, .int .i64 s1.f2, .int .i64 s1.f3, .int .i64 s1.f4] 26).at_ (q := w.heap.size + 1) (by simp)).cell 2
    have e13 : ((w.alloc (.cells #[.int .i64 s0.f0, .string s0.f1, .int .i64 s0.f2, .int .i64 s0.f3, .int .i64 s0.f4] 26)).alloc (.cells #[.int .i64 s1.f0, .string s1.f1, .int .i64 s1.f2, .int .i64 s1.f3, .int .i64 s1.f4] 26)).cell? ⟨w.heap.size + 1, 3, none⟩ = some (.int .i64 s1.f3) := ((Blk.new (w.alloc (.cells #[.int .i64 s0.f0, .string s0.f1, .int .i64 s0.f2, .int .i64 s0.f3, .int .i64 s0.f4] 26)) #[.int .i64 s1.f0, .string s1.f1, .int .i64 s1.f2, .int .i64 s1.f3, .int .i64 s1.f4] 26).at_ (q := w.heap.size + 1) (by simp)).cell 3
    have e14 : ((w.alloc (.cells #[.int .i64 s0.f0, .string s0.f1, .int .i64 s0.f2, .int .i64 s0.f3, .int .i64 s0.f4] 26)).alloc (.cells #[.int .i64 s1.f0, .string s1.f1, .int .i64 s1.f2, .int .i64 s1.f3, .int .i64 s1.f4] 26)).cell? ⟨w.heap.size + 1, 4, none⟩ = some (.int .i64 s1.f4) := ((Blk.new (w.alloc (.cells #[.int .i64 s0.f0, .string s0.f1, .int .i64 s0.f2, .int .i64 s0.f3, .int .i64 s0.f4] 26)) #[.int .i64 s1.f0, .string s1.f1, .int .i64 s1.f2, .int .i64 s1.f3, .int .i64 s1.f4] 26).at_ (q := w.heap.size + 1) (by simp)).cell 4
    have z1 : w.heap.size + 1 < ((w.alloc (.cells #[.int .i64 s0.f0, .string s0.f1, .int .i64 s0.f2, .int .i64 s0.f3, .int .i64 s0.f4] 26)).alloc (.cells #[.int .i64 s1.f0, .string s1.f1, .int .i64 s1.f2, .int .i64 s1.f3, .int .i64 s1.f4] 26)).heap.size := by first | (simp; done) | (simp; omega)
    go_enter Try.func4, Try.ntmps4
    go_wp2_with fail
    refine (szShade_yes s0 _ _ (by omega) (by omega)).mono ?_
    rintro e w1 ⟨rfl, hb⟩
    replace e00 := cells_of hb e00 z0
    replace e01 := cells_of hb e01 z0
    replace e02 := cells_of hb e02 z0
    replace e03 := cells_of hb e03 z0
    replace e04 := cells_of hb e04 z0
    replace e10 := cells_of hb e10 z1
    replace e11 := cells_of hb e11 z1
    replace e12 := cells_of hb e12 z1
    replace e13 := cells_of hb e13 z1
    replace e14 := cells_of hb e14 z1
    replace HB := HB.trans (hb.mono HB.size)
    replace z0 := Nat.lt_of_lt_of_le z0 hb.size
    replace z1 := Nat.lt_of_lt_of_le z1 hb.size
    clear hb
    go_wp2_with fail
    refine (szShade_no s1 _ _ o1 (by omega) (by omega) (by omega)).mono ?_
    rintro e w2 ⟨rfl, hb⟩
    replace e00 := cells_of hb e00 z0
    replace e01 := cells_of hb e01 z0
    replace e02 := cells_of hb e02 z0
    replace e03 := cells_of hb e03 z0
    replace e04 := cells_of hb e04 z0
    replace e10 := cells_of hb e10 z1
    replace e11 := cells_of hb e11 z1
    replace e12 := cells_of hb e12 z1
    replace e13 := cells_of hb e13 z1
    replace e14 := cells_of hb e14 z1
    replace HB := HB.trans (hb.mono HB.size)
    replace z0 := Nat.lt_of_lt_of_le z0 hb.size
    replace z1 := Nat.lt_of_lt_of_le z1 hb.size
    clear hb
    go_wp2_with fail
    go_ret
    exact ⟨rfl, HB⟩
  · have q0 : 0 ≤ ((s0.f1.size : Nat) : Int) := by omega
    have q1 : 0 ≤ ((s1.f1.size : Nat) : Int) := by omega
    have HB : Below w.heap.size w ((w.alloc (.cells #[.int .i64 s0.f0, .string s0.f1, .int .i64 s0.f2, .int .i64 s0.f3, .int .i64 s0.f4] 26)).alloc (.cells #[.int .i64 s1.f0, .string s1.f1, .int .i64 s1.f2, .int .i64 s1.f3, .int .i64 s1.f4] 26)) := ((Below.refl _ _).alloc (by first | (simp; done) | (simp; omega)) _).alloc (by first | (simp; done) | (simp; omega)) _
    have e00 : ((w.alloc (.cells #[.int .i64 s0.f0, .string s0.f1, .int .i64 s0.f2, .int .i64 s0.f3, .int .i64 s0.f4] 26)).alloc (.cells #[.int .i64 s1.f0, .string s1.f1, .int .i64 s1.f2, .int .i64 s1.f3, .int .i64 s1.f4] 26)).cell? ⟨w.heap.size, 0, none⟩ = some (.int .i64 s0.f0) := (((Blk.new w #[.int .i64 s0.f0, .string s0.f1, .int .i64 s0.f2, .int .i64 s0.f3, .int .i64 s0.f4] 26).alloc (.cells #[.int .i64 s1.f0, .string s1.f1, .int .i64 s1.f2, .int .i64 s1.f3, .int .i64 s1.f4] 26)).at_ (q := w.heap.size) (by simp)).cell 0
    have e01 : ((w.alloc (.cells #[.int .i64 s0.f0, .string s0.f1, .int .i64 s0.f2, .int .i64 s0.f3, .int .i64 s0.f4] 26)).alloc (.cells #[.int .i64 s1.f0, .string s1.f1, .int .i64 s1.f2, .int .i64 s1.f3, .int .i64 s1.f4] 26)).cell? ⟨w.heap.size, 1, none⟩ = some (.string s0.f1) := (((Blk.new w #[.int .i64 s0.f0, .string s0.f1, .int .i64 s0.f2, .int .i64 s0.f3, .int .i64 s0.f4] 26).alloc (.cells #[.int .i64 s1.f0, .string s1.f1, .int .i64 s1.f2, .int .i64 s1.f3, .int .i64 s1.f4] 26)).at_ (q := w.heap.size) (by simp)).cell 1
    have e02 : ((w.alloc (.cells #[.int .i64 s0.f0, .string s0.f1, .int .i64 s0.f2, .int .i64 s0.f3, .int .i64 s0.f4] 26)).alloc (.cells #[.int .i64 s1.f0, .string s1.f1, .int .i64 s1.f2, .int .i64 s1.f3, .int .i64 s1.f4] 26)).cell? ⟨w.heap.size, 2, none⟩ = some (.int .i64 s0.f2) := (((Blk.new w #[.int .i64 s0.f0, .string s0.f1, .int .i64 s0.f2, .int .i64 s0.f3, .int .i64 s0.f4] 26).alloc (.cells #[.int .i64 s1.f0, .string s1.f1, .int .i64 s1.f2, .int .i64 s1.f3, .int .i64 s1.f4] 26)).at_ (q := w.heap.size) (by simp)).cell 2
    have e03 : ((w.alloc (.cells #[.int .i64 s0.f0, .string s0.f1, .int .i64 s0.f2, .int .i64 s0.f3, .int .i64 s0.f4] 26)).alloc (.cells #[.int .i64 s1.f0, .string s1.f1, .int .i64 s1.f2, .int .i64 s1.f3, .int .i64 s1.f4] 26)).cell? ⟨w.heap.size, 3, none⟩ = some (.int .i64 s0.f3) := (((Blk.new w #[.int .i64 s0.f0, .string s0.f1, .int .i64 s0.f2, .int .i64 s0.f3, .int .i64 s0.f4] 26).alloc (.cells #[.int .i64 s1.f0, .string s1.f1, .int .i64 s1.f2, .int .i64 s1.f3, .int .i64 s1.f4] 26)).at_ (q := w.heap.size) (by simp)).cell 3
    have e04 : ((w.alloc (.cells #[.int .i64 s0.f0, .string s0.f1, .int .i64 s0.f2, .int .i64 s0.f3, .int .i64 s0.f4] 26)).alloc (.cells #[.int .i64 s1.f0, .string s1.f1, .int .i64 s1.f2, .int .i64 s1.f3, .int .i64 s1.f4] 26)).cell? ⟨w.heap.size, 4, none⟩ = some (.int .i64 s0.f4) := (((Blk.new w #[.int .i64 s0.f0, .string s0.f1, .int .i64 s0.f2, .int .i64 s0.f3, .int .i64 s0.f4] 26).alloc (.cells #[.int .i64 s1.f0, .string s1.f1, .int .i64 s1.f2, .int .i64 s1.f3, .int .i64 s1.f4] 26)).at_ (q := w.heap.size) (by simp)).cell 4
    have z0 : w.heap.size < ((w.alloc (.cells #[.int .i64 s0.f0, .string s0.f1, .int .i64 s0.f2, .int .i64 s0.f3, .int .i64 s0.f4] 26)).alloc (.cells #[.int .i64 s1.f0, .string s1.f1, .int .i64 s1.f2, .int .i64 s1.f3, .int .i64 s1.f4] 26)).heap.size := by first | (simp; done) | (simp; omega)
    have e10 : ((w.alloc (.cells #[.int .i64 s0.f0, .string s0.f1, .int .i64 s0.f2, .int .i64 s0.f3, .int .i64 s0.f4] 26)).alloc (.cells #[.int .i64 s1.f0, .string s1.f1, .int .i64 s1.f2, .int .i64 s1.f3, .int .i64 s1.f4] 26)).cell? ⟨w.heap.size + 1, 0, none⟩ = some (.int .i64 s1.f0) := ((Blk.new (w.alloc (.cells #[.int .i64 s0.f0, .string s0.f1, .int .i64 s0.f2, .int .i64 s0.f3, .int .i64 s0.f4] 26)) #[.int .i64 s1.f0, .string s1.f1, .int .i64 s1.f2, .int .i64 s1.f3, .int .i64 s1.f4] 26).at_ (q := w.heap.size + 1) (by simp)).cell 0
    have e11 : ((w.alloc (.cells #[.int .i64 s0.f0, .string s0.f1, .int .i64 s0.f2, .int .i64 s0.f3, .int .i64 s0.f4] 26)).alloc (.cells #[.int .i64 s1.f0, .string s1.f1, .int .i64 s1.f2, .int .i64 s1.f3, .int .i64 s1.f4] 26)).cell? ⟨w.heap.size + 1, 1, none⟩ = some (.string s1.f1) := ((Blk.new (w.alloc (.cells #[.int .i64 s0.f0, .string s0.f1, .int .i64 s0.f2, .int .i64 s0.f3, .int .i64 s0.f4] 26)) #[.int .i64 s1.f0, .string s1.f1, .int .i64 s1.f2, .int .i64 s1.f3, .int .i64 s1.f4] 26).at_ (q := w.heap.size + 1) (by simp)).cell 1
    have e12 : ((w.alloc (.cells #[.int .i64 s0.f0, .string s0.f1, .int .i64 s0.f2, .int .i64 s0.f3, .int .i64 s0.f4] 26)).alloc (.cells #[.int .i64 s1.f0, .string s1.f1, .int .i64 s1.f2, .int .i64 s1.f3, .int .i64 s1.f4] 26)).cell? ⟨w.heap.size + 1, 2, none⟩ = some (.int .i64 s1.f2) := ((Blk.new (w.alloc (.cells #[.int .i64 s0.f0, .string s0.f1, .int .i64 s0.f2, .int .i64 s0.f3, .int .i64 s0.f4] 26)) #[.int .i64 s1.f0, .string s1.f1, .int .i64 s1.f2, .int .i64 s1.f3, .int .i64 s1.f4] 26).at_ (q := w.heap.size + 1) (by simp)).cell 2
    have e13 : ((w.alloc (.cells #[.int .i64 s0.f0, .string s0.f1, .int .i64 s0.f2, .int .i64 s0.f3, .int .i64 s0.f4] 26)).alloc (.cells #[.int .i64 s1.f0, .string s1.f1, .int .i64 s1.f2, .int .i64 s1.f3, .int .i64 s1.f4] 26)).cell? ⟨w.heap.size + 1, 3, none⟩ = some (.int .i64 s1.f3) := ((Blk.new (w.alloc (.cells #[.int .i64 s0.f0, .string s0.f1, .int .i64 s0.f2, .int .i64 s0.f3, .int .i64 s0.f4] 26)) #[.int .i64 s1.f0, .string s1.f1, .int .i64 s1.f2, .int .i64 s1.f3, .int .i64 s1.f4] 26).at_ (q := w.heap.size + 1) (by simp)).cell 3
    have e14 : ((w.alloc (.cells #[.int .i64 s0.f0, .string s0.f1, .int .i64 s0.f2, .int .i64 s0.f3, .int .i64 s0.f4] 26)).alloc (.cells #[.int .i64 s1.f0, .string s1.f1, .int .i64 s1.f2, .int .i64 s1.f3, .int .i64 s1.f4] 26)).cell? ⟨w.heap.size + 1, 4, none⟩ = some (.int .i64 s1.f4) := ((Blk.new (w.alloc (.cells #[.int .i64 s0.f0, .string s0.f1, .int .i64 s0.f2, .int .i64 s0.f3, .int .i64 s0.f4] 26)) #[.int .i64 s1.f0, .string s1.f1, .int .i64 s1.f2, .int .i64 s1.f3, .int .i64 s1.f4] 26).at_ (q := w.heap.size + 1) (by simp)).cell 4
    have z1 : w.heap.size + 1 < ((w.alloc (.cells #[.int .i64 s0.f0, .string s0.f1, .int .i64 s0.f2, .int .i64 s0.f3, .int .i64 s0.f4] 26)).alloc (.cells #[.int .i64 s1.f0, .string s1.f1, .int .i64 s1.f2, .int .i64 s1.f3, .int .i64 s1.f4] 26)).heap.size := by first | (simp; done) | (simp; omega)
    go_enter Try.func4, Try.ntmps4
    go_wp2_with fail
    refine (szShade_no s0 _ _ o0 (by omega) (by omega) (by omega)).mono ?_
    rintro e w1 ⟨rfl, hb⟩
    replace e00 := cells_of hb e00 z0
    replace e01 := cells_of hb e01 z0
    replace e02 := cells_of hb e02 z0
    replace e03 := cells_of hb e03 z0
    replace e04 := cells_of hb e04 z0
    replace e10 := cells_of hb e10 z1
    replace e11 := cells_of hb e11 z1
    replace e12 := cells_of hb e12 z1
    replace e13 := cells_of hb e13 z1
    replace e14 := cells_of hb e14 z1
    replace HB := HB.trans (hb.mono HB.size)
    replace z0 := Nat.lt_of_lt_of_le z0 hb.size
    replace z1 := Nat.lt_of_lt_of_le z1 hb.size
    clear hb
    go_wp2_with fail
    go_ret
    exact ⟨rfl, HB⟩
theorem walk (w : World) (s0 : ShadeR) (s1 : ShadeR) (o0 : s0.ok) (o1 : s1.ok) : Calls Try.prog 4 #[.agg #[.int .i64 s0.f0, .string s0.f1, .int .i64 s0.f2, .int .i64 s0.f3, .int .i64 s0.f4], .agg #[.int .i64 s1.f0, .string s1.f1, .int .i64 s1.f2, .int .i64 s1.f3, .int .i64 s1.f4]] w fun e w' => e = .returned (.bool true) ∧ Below w.heap.size w w' := by
  by_cases hs : (s0.f1.size) + (s1.f1.size) ≤ 1048576
  · exact core w s0 s1  hs _ _  (Lib.hid (fun w => specShadeDistance_any s0 s1 w o0.2.1 o1.2.1)) (Lib.hid (fun w => implShadeDistance_any s0 s1 w o0.2.1 o1.2.1))
  · exact big w s0 s1 o0 o1 hs
end Go.Proofs.Ytjhpjdlfdgpklab.shadeDistance
