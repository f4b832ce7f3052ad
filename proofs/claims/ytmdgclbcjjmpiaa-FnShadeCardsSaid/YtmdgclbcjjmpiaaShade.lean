/- The walks of the functions over shades: valid, gap, distance, faded. Condition: the strings fit. -/
import Derived.Test.YtmdgclbcjjmpiaaShadeData
import Derived.Test.YtmdgclbcjjmpiaaBase
import Derived.IntWalk
namespace Go.Proofs.Ytmdgclbcjjmpiaa
open Go.RowKit

def shadeB (s : ShadeR) : Bool := inB s.f0 1 99 && wordB s.f1 && inB s.f2 0 23 && inB s.f3 0 9 && inB s.f4 1 8
set_option maxRecDepth 100000 in
set_option maxHeartbeats 400000 in
theorem isStep_any (x : Int) (w : World) : Calls Try.prog 23 #[.int .i64 x] w fun e w' => e = .returned (.bool (inB x 0 23)) ∧ w = w' := by
  go_enter Try.func23, Try.ntmps23
  go_wp2_with (go_at_call 33; refine (isBetween_any _ _ _ _).mono ?_; rintro e w' ⟨rfl, rfl⟩)
  go_ret
  exact ⟨rfl, rfl⟩
set_option maxRecDepth 100000 in
set_option maxHeartbeats 400000 in
theorem isDepth_any (x : Int) (w : World) : Calls Try.prog 24 #[.int .i64 x] w fun e w' => e = .returned (.bool (inB x 0 9)) ∧ w = w' := by
  go_enter Try.func24, Try.ntmps24
  go_wp2_with (go_at_call 33; refine (isBetween_any _ _ _ _).mono ?_; rintro e w' ⟨rfl, rfl⟩)
  go_ret
  exact ⟨rfl, rfl⟩
set_option maxRecDepth 100000 in
set_option maxHeartbeats 400000 in
theorem l3Step_any (x : Int) (w : World) : Calls Try.prog 27 #[.int .i64 x] w fun e w' => e = .returned (.bool (inB x 0 23)) ∧ w = w' := by
  go_enter Try.func27, Try.ntmps27
  go_wp2_with (go_at_call 36; refine (l1In_any _ _ _ _).mono ?_; rintro e w' ⟨rfl, rfl⟩)
  go_ret
  exact ⟨rfl, rfl⟩
set_option maxRecDepth 100000 in
set_option maxHeartbeats 400000 in
theorem l3Depth_any (x : Int) (w : World) : Calls Try.prog 28 #[.int .i64 x] w fun e w' => e = .returned (.bool (inB x 0 9)) ∧ w = w' := by
  go_enter Try.func28, Try.ntmps28
  go_wp2_with (go_at_call 36; refine (l1In_any _ _ _ _).mono ?_; rintro e w' ⟨rfl, rfl⟩)
  go_ret
  exact ⟨rfl, rfl⟩

set_option maxRecDepth 100000 in
set_option maxHeartbeats 1000000 in
theorem implIsShade_any (s : ShadeR) (w : World) (hm : s.f1.size ≤ maxLen) :
    Calls Try.prog 30 #[.agg #[.int .i64 s.f0, .string s.f1, .int .i64 s.f2, .int .i64 s.f3, .int .i64 s.f4]] w (Tells w (shadeB s)) := by
  have hb0 := Lib.hid (show Below w.heap.size w (w.alloc (.cells #[.int .i64 s.f0, .string s.f1, .int .i64 s.f2, .int .i64 s.f3, .int .i64 s.f4] 30)) from (Below.refl _ _).alloc (Nat.le_refl _) _)
  go_enter Try.func30, Try.ntmps30
  go_wp2_with (first | (go_at_call 33; (with_reducible refine (isBetween_any _ _ _ _).mono ?_); rintro e w' ⟨rfl, rfl⟩) | (go_at_call 47; (with_reducible refine (isWord_any _ _ hm).mono ?_); rintro e w' ⟨rfl, rfl⟩) | (go_at_call 23; (with_reducible refine (isStep_any _ _).mono ?_); rintro e w' ⟨rfl, rfl⟩) | (go_at_call 24; (with_reducible refine (isDepth_any _ _).mono ?_); rintro e w' ⟨rfl, rfl⟩))
  all_goals
    go_ret
    exact ⟨ret_bool (by simp [shadeB, *]), hb0.out⟩
set_option maxRecDepth 100000 in
set_option maxHeartbeats 1000000 in
theorem l3One_any (s : ShadeR) (w : World) (hm : s.f1.size ≤ maxLen) :
    Calls Try.prog 43 #[.agg #[.int .i64 s.f0, .string s.f1, .int .i64 s.f2, .int .i64 s.f3, .int .i64 s.f4]] w (Tells w (shadeB s)) := by
  have hb0 := Lib.hid (show Below w.heap.size w (w.alloc (.cells #[.int .i64 s.f0, .string s.f1, .int .i64 s.f2, .int .i64 s.f3, .int .i64 s.f4] 30)) from (Below.refl _ _).alloc (Nat.le_refl _) _)
  go_enter Try.func43, Try.ntmps43
  go_wp2_with (first | (go_at_call 36; (with_reducible refine (l1In_any _ _ _ _).mono ?_); rintro e w' ⟨rfl, rfl⟩) | (go_at_call 51; (with_reducible refine (l2Word_any _ _ hm).mono ?_); rintro e w' ⟨rfl, rfl⟩) | (go_at_call 27; (with_reducible refine (l3Step_any _ _).mono ?_); rintro e w' ⟨rfl, rfl⟩) | (go_at_call 28; (with_reducible refine (l3Depth_any _ _).mono ?_); rintro e w' ⟨rfl, rfl⟩))
  all_goals
    go_ret
    exact ⟨ret_bool (by simp [shadeB, *]), hb0.out⟩
/-- The gap of two steps. -/
def gapI (a b : Int) : Int := min ((b - a) % 24) ((a - b) % 24)
def Step (a : Int) : Prop := 0 ≤ a ∧ a ≤ 23
def Deep (a : Int) : Prop := 0 ≤ a ∧ a ≤ 9
theorem gapI_bd (a b : Int) : 0 ≤ gapI a b ∧ gapI a b ≤ 12 := by unfold gapI; omega
set_option maxRecDepth 100000 in
set_option maxHeartbeats 400000 in
theorem stepsUp_any (a b : Int) (w : World) (ha : Step a) (hb : Step b) : Calls Try.prog 52 #[.int .i64 a, .int .i64 b] w fun e w' => e = .returned (.int .i64 ((b - a) % 24)) ∧ w = w' := by
  obtain ⟨a0, a1⟩ := ha
  obtain ⟨b0, b1⟩ := hb
  go_enter Try.func52, Try.ntmps52
  go_wp2
  go_ret
  exact ⟨ret_int (by omega), rfl⟩
set_option maxRecDepth 100000 in
set_option maxHeartbeats 400000 in
theorem gapOf_any (a b : Int) (w : World) (ha : Step a) (hb : Step b) : Calls Try.prog 46 #[.int .i64 a, .int .i64 b] w fun e w' => e = .returned (.int .i64 (gapI a b)) ∧ w = w' := by
  go_enter Try.func46, Try.ntmps46
  go_wp2_with (first | (go_at_call 52; (with_reducible refine (stepsUp_any _ _ _ ha hb).mono ?_); rintro e w' ⟨rfl, rfl⟩) | (go_at_call 52; (with_reducible refine (stepsUp_any _ _ _ hb ha).mono ?_); rintro e w' ⟨rfl, rfl⟩))
  all_goals
    go_ret
    exact ⟨ret_int (by unfold gapI; omega), rfl⟩
set_option maxRecDepth 100000 in
set_option maxHeartbeats 400000 in
theorem l3Apart_any (a b : Int) (w : World) (ha : -100 ≤ a ∧ a ≤ 100) (hb : -100 ≤ b ∧ b ≤ 100) : Calls Try.prog 40 #[.int .i64 a, .int .i64 b] w fun e w' => e = .returned (.int .i64 (max (a - b) (b - a))) ∧ w = w' := by
  obtain ⟨a0, a1⟩ := ha
  obtain ⟨b0, b1⟩ := hb
  go_enter Try.func40, Try.ntmps40
  go_wp2_with (go_at_call 48; (with_reducible refine (l1Most_any _ _ _).mono ?_); rintro e w' ⟨rfl, rfl⟩)
  go_ret
  exact ⟨ret_int (by unfold mostI; split <;> omega), rfl⟩
set_option maxRecDepth 100000 in
set_option maxHeartbeats 400000 in
theorem l3Gap_any (a b : Int) (w : World) (ha : Step a) (hb : Step b) : Calls Try.prog 41 #[.int .i64 a, .int .i64 b] w fun e w' => e = .returned (.int .i64 (gapI a b)) ∧ w = w' := by
  obtain ⟨a0, a1⟩ := ha
  obtain ⟨b0, b1⟩ := hb
  have m0 : 0 ≤ max (a - b) (b - a) := by omega
  have m1 : max (a - b) (b - a) ≤ 23 := by omega
  go_enter Try.func41, Try.ntmps41
  go_wp2_with (first | (go_at_call 40; (with_reducible refine (l3Apart_any _ _ _ ⟨by omega, by omega⟩ ⟨by omega, by omega⟩).mono ?_); rintro e w' ⟨rfl, rfl⟩) | (go_at_call 49; (with_reducible refine (l1Least_any _ _ _).mono ?_); rintro e w' ⟨rfl, rfl⟩))
  go_ret
  exact ⟨ret_int (by unfold leastI gapI; split <;> omega), rfl⟩

/-- The distance of two places. -/
def distI (a b c d : Int) : Int := 2 * gapI a c + max (b - d) (d - b)
set_option maxRecDepth 100000 in
set_option maxHeartbeats 1000000 in
theorem distanceOf_any (s t : ShadeR) (w : World) (hs : Step s.f2) (ht : Step t.f2) (hsd : Deep s.f3) (htd : Deep t.f3) :
    Calls Try.prog 25 #[.agg #[.int .i64 s.f0, .string s.f1, .int .i64 s.f2, .int .i64 s.f3, .int .i64 s.f4], .agg #[.int .i64 t.f0, .string t.f1, .int .i64 t.f2, .int .i64 t.f3, .int .i64 t.f4]] w (Out w (.int .i64 (distI s.f2 s.f3 t.f2 t.f3))) := by
  obtain ⟨g0, g1⟩ := gapI_bd s.f2 t.f2
  obtain ⟨s0, s1⟩ := hsd
  obtain ⟨t0, t1⟩ := htd
  rcases Int.lt_or_le (s.f3 - t.f3) (t.f3 - s.f3) with h | h
  all_goals
    have e1 : IntKind.i64.wrap (s.f3 - t.f3) = s.f3 - t.f3 := IntWalk.i64_in _ (by omega)
    have e2 : IntKind.i64.wrap (t.f3 - s.f3) = t.f3 - s.f3 := IntWalk.i64_in _ (by omega)
    have e3 : IntKind.i64.wrap (2 * gapI s.f2 t.f2) = 2 * gapI s.f2 t.f2 := IntWalk.i64_in _ (by omega)
    go_enter Try.func25, Try.ntmps25
    go_wp2
    go_region_held3 (fun w' => w'.cell? ⟨w.heap.size, 2, none⟩ = some (.int .i64 s.f2) ∧ w'.cell? ⟨w.heap.size, 3, none⟩ = some (.int .i64 s.f3) ∧ w'.cell? ⟨w.heap.size + 1, 2, none⟩ = some (.int .i64 t.f2) ∧ w'.cell? ⟨w.heap.size + 1, 3, none⟩ = some (.int .i64 t.f3)) (go_keep) ((go_at_call 46; (with_reducible refine (gapOf_any _ _ _ hs ht).mono ?_); rintro e w' ⟨rfl, rfl⟩))
    clear e1 e2 e3
    all_goals
      go_wp2
      go_ret
      exact ⟨ret_int (by first | (rw [IntWalk.i64_in _ (by omega)]; unfold distI; omega) | (unfold distI; omega)), by repeat (first | exact Below.refl _ _ | refine belowN ?_ _ | refine belowD ?_ | (refine Below.setCell ?_ (by first | (simp; done) | (simp; omega)) _) | (refine Below.alloc ?_ (by first | (simp; done) | (simp; omega)) _))⟩
set_option maxRecDepth 100000 in
set_option maxHeartbeats 1000000 in
theorem l3Far_any (s : ShadeR) (c d : Int) (w : World) (hs : Step s.f2) (ht : Step c) (hsd : Deep s.f3) (htd : Deep d) :
    Calls Try.prog 29 #[.agg #[.int .i64 s.f0, .string s.f1, .int .i64 s.f2, .int .i64 s.f3, .int .i64 s.f4], .int .i64 c, .int .i64 d] w (Out w (.int .i64 (distI s.f2 s.f3 c d))) := by
  obtain ⟨g0, g1⟩ := gapI_bd s.f2 c
  obtain ⟨s0, s1⟩ := hsd
  obtain ⟨t0, t1⟩ := htd
  go_enter Try.func29, Try.ntmps29
  go_wp2
  go_quiet ((first | (go_at_call 41; exact quiet_same (l3Gap_any _ _ _ hs ht)) | (go_at_call 40; exact quiet_same (l3Apart_any _ _ _ ⟨by omega, by omega⟩ ⟨by omega, by omega⟩))))
  go_wp2
  go_ret
  exact ⟨ret_int (by unfold distI; omega), by repeat (first | exact Below.refl _ _ | refine belowN ?_ _ | refine belowD ?_ | (refine Below.setCell ?_ (by first | (simp; done) | (simp; omega)) _) | (refine Below.alloc ?_ (by first | (simp; done) | (simp; omega)) _))⟩
end Go.Proofs.Ytmdgclbcjjmpiaa
