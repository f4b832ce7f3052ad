/- The walks of a shade that fades, the program's and the model's. Condition: a valid shade, valid years. -/
import Derived.Test.YtmdgclbcjjmpiaaShadeDist
import Derived.RegionTactic
import Derived.BigRegion
namespace Go.Proofs.Ytmdgclbcjjmpiaa
open Go.RowKit

def fadeR (s : ShadeR) (y : Int) : ShadeR := ⟨s.f0, s.f1, s.f2, max (s.f3 - y / (5 * s.f4)) 0, s.f4⟩
theorem fade_bd {s : ShadeR} {y : Int} (h4 : 1 ≤ s.f4 ∧ s.f4 ≤ 8) (hy : 0 ≤ y ∧ y ≤ 200) : 0 ≤ y / (5 * s.f4) ∧ y / (5 * s.f4) ≤ 200 := by
  obtain ⟨h4a, h4b⟩ := h4
  have h5 : 0 < 5 * s.f4 := by omega
  refine ⟨Int.ediv_nonneg hy.1 (by omega), ?_⟩
  have := Int.ediv_le_self (5 * s.f4) hy.1
  omega
set_option maxRecDepth 100000 in
set_option maxHeartbeats 2000000 in
theorem fadedBy_any (s : ShadeR) (y : Int) (w : World) (h3 : Deep s.f3) (h4 : 1 ≤ s.f4 ∧ s.f4 ≤ 8) (hy : 0 ≤ y ∧ y ≤ 200) :
    Calls Try.prog 34 #[.agg #[.int .i64 s.f0, .string s.f1, .int .i64 s.f2, .int .i64 s.f3, .int .i64 s.f4], .int .i64 y] w
      (Out w (.agg #[.int .i64 s.f0, .string s.f1, .int .i64 s.f2, .int .i64 (max (s.f3 - y / (5 * s.f4)) 0), .int .i64 s.f4])) := by
  obtain ⟨d0, d1⟩ := fade_bd h4 hy
  obtain ⟨a0, a1⟩ := h3
  obtain ⟨b0, b1⟩ := h4
  obtain ⟨y0, y1⟩ := hy
  have hnz : ¬ (5 * s.f4 = 0) := by omega
  rcases Int.lt_or_le (s.f3 - y / (5 * s.f4)) 0 with hm | hm
  · have E := Lib.hid (show max (s.f3 - y / (5 * s.f4)) 0 = 0 by omega)
    go_enter Try.func34, Try.ntmps34
    go_wp2
    go_region
    all_goals
      go_wp2
      refine bodyPost_ret (v := .agg #[.int .i64 s.f0, .string s.f1, .int .i64 s.f2, .int .i64 0, .int .i64 s.f4]) (by simp [results, Try.results34, go_sem]) rfl ⟨by rw [E.out], ?_⟩
      repeat (first | assumption | exact Below.refl _ _ | refine belowN ?_ _ | refine belowD ?_ | (refine Below.setCell ?_ (by first | (simp; done) | (simp; omega) | omega) _) | (refine Below.alloc ?_ (by first | (simp; done) | (simp; omega) | omega) _))
  · have E := Lib.hid (show max (s.f3 - y / (5 * s.f4)) 0 = s.f3 - y / (5 * s.f4) by omega)
    go_enter Try.func34, Try.ntmps34
    go_wp2
    go_region
    all_goals
      go_wp2
      refine bodyPost_ret (v := .agg #[.int .i64 s.f0, .string s.f1, .int .i64 s.f2, .int .i64 (s.f3 - y / (5 * s.f4)), .int .i64 s.f4]) (by simp [results, Try.results34, go_sem]) rfl ⟨by rw [E.out], ?_⟩
      repeat (first | assumption | exact Below.refl _ _ | refine belowN ?_ _ | refine belowD ?_ | (refine Below.setCell ?_ (by first | (simp; done) | (simp; omega) | omega) _) | (refine Below.alloc ?_ (by first | (simp; done) | (simp; omega) | omega) _))
theorem l1Most_eq (a b c : Int) (w : World) (h : mostI a b = c) : Calls Try.prog 48 #[.int .i64 a, .int .i64 b] w fun e w' => e = .returned (.int .i64 c) ∧ w = w' := h ▸ l1Most_any a b w
set_option maxRecDepth 100000 in
set_option maxHeartbeats 2000000 in
theorem l3Faded_any (s : ShadeR) (y : Int) (w : World) (h3 : Deep s.f3) (h4 : 1 ≤ s.f4 ∧ s.f4 ≤ 8) (hy : 0 ≤ y ∧ y ≤ 200) :
    Calls Try.prog 37 #[.agg #[.int .i64 s.f0, .string s.f1, .int .i64 s.f2, .int .i64 s.f3, .int .i64 s.f4], .int .i64 y] w
      (Out w (.agg #[.int .i64 s.f0, .string s.f1, .int .i64 s.f2, .int .i64 (max (s.f3 - y / (5 * s.f4)) 0), .int .i64 s.f4])) := by
  obtain ⟨d0, d1⟩ := fade_bd h4 hy
  obtain ⟨a0, a1⟩ := h3
  obtain ⟨b0, b1⟩ := h4
  obtain ⟨y0, y1⟩ := hy
  have hnz : ¬ (5 * s.f4 = 0) := by omega
  rcases Int.lt_or_le (s.f3 - y / (5 * s.f4)) 0 with hm | hm
  · have E := Lib.hid (show max (s.f3 - y / (5 * s.f4)) 0 = 0 by omega)
    have M : Hid (mostI 0 (s.f3 - y / (5 * s.f4)) = 0) := show mostI 0 _ = 0 from if_pos (by omega)
    have e1 : IntKind.i64.wrap (5 * s.f4) = 5 * s.f4 := IntWalk.i64_in _ (by omega)
    have e2 : IntKind.i64.wrap (y.tdiv (5 * s.f4)) = y / (5 * s.f4) := by rw [Int.tdiv_eq_ediv_of_nonneg (by omega)]; exact IntWalk.i64_in _ (by omega)
    have e3 : IntKind.i64.wrap (y / (5 * s.f4)) = y / (5 * s.f4) := IntWalk.i64_in _ (by omega)
    have e4 : IntKind.i64.wrap (s.f3 - y / (5 * s.f4)) = s.f3 - y / (5 * s.f4) := IntWalk.i64_in _ (by omega)
    have e5 : (5 * s.f4 == 0) = false := by simp; omega
    go_enter Try.func37, Try.ntmps37
    go_wp2
    go_region_with ((go_at_call 48; (with_reducible refine (l1Most_eq _ _ _ _ M.out).mono ?_); rintro e w' ⟨rfl, rfl⟩))
    all_goals clear e1 e2 e3 e4 e5
    all_goals
      go_wp2
      refine bodyPost_ret (v := .agg #[.int .i64 s.f0, .string s.f1, .int .i64 s.f2, .int .i64 0, .int .i64 s.f4]) (by simp [results, Try.results37, go_sem]) rfl ⟨by rw [E.out], ?_⟩
      repeat (first | assumption | exact Below.refl _ _ | refine belowN ?_ _ | refine belowD ?_ | (refine Below.setCell ?_ (by first | (simp; done) | (simp; omega) | omega) _) | (refine Below.alloc ?_ (by first | (simp; done) | (simp; omega) | omega) _))
  · have E := Lib.hid (show max (s.f3 - y / (5 * s.f4)) 0 = s.f3 - y / (5 * s.f4) by omega)
    have M : Hid (mostI 0 (s.f3 - y / (5 * s.f4)) = s.f3 - y / (5 * s.f4)) := show mostI 0 _ = _ by unfold mostI; split <;> omega
    have e1 : IntKind.i64.wrap (5 * s.f4) = 5 * s.f4 := IntWalk.i64_in _ (by omega)
    have e2 : IntKind.i64.wrap (y.tdiv (5 * s.f4)) = y / (5 * s.f4) := by rw [Int.tdiv_eq_ediv_of_nonneg (by omega)]; exact IntWalk.i64_in _ (by omega)
    have e3 : IntKind.i64.wrap (y / (5 * s.f4)) = y / (5 * s.f4) := IntWalk.i64_in _ (by omega)
    have e4 : IntKind.i64.wrap (s.f3 - y / (5 * s.f4)) = s.f3 - y / (5 * s.f4) := IntWalk.i64_in _ (by omega)
    have e5 : (5 * s.f4 == 0) = false := by simp; omega
    go_enter Try.func37, Try.ntmps37
    go_wp2
    go_region_with ((go_at_call 48; (with_reducible refine (l1Most_eq _ _ _ _ M.out).mono ?_); rintro e w' ⟨rfl, rfl⟩))
    all_goals clear e1 e2 e3 e4 e5
    all_goals
      go_wp2
      refine bodyPost_ret (v := .agg #[.int .i64 s.f0, .string s.f1, .int .i64 s.f2, .int .i64 (s.f3 - y / (5 * s.f4)), .int .i64 s.f4]) (by simp [results, Try.results37, go_sem]) rfl ⟨by rw [E.out], ?_⟩
      repeat (first | assumption | exact Below.refl _ _ | refine belowN ?_ _ | refine belowD ?_ | (refine Below.setCell ?_ (by first | (simp; done) | (simp; omega) | omega) _) | (refine Below.alloc ?_ (by first | (simp; done) | (simp; omega) | omega) _))
end Go.Proofs.Ytmdgclbcjjmpiaa
