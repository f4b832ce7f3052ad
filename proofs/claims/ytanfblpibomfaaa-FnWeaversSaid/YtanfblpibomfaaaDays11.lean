/- The walks that tell after how many days knots are tied, both texts. No condition. -/
import Derived.Test.YtanfblpibomfaaaKnots11
namespace Go.Proofs.Ytanfblpibomfaaa
open Go.RowKit

set_option maxRecDepth 100000 in
set_option maxHeartbeats 400000 in
theorem divUp11_any (x b : Int) (w : World) (h0 : 0 ≤ x) (h1 : x ≤ 1000000000000) (hb0 : 1 ≤ b) (hb1 : b ≤ 1000000) : Calls Try.prog 39 #[.int .i64 x, .int .i64 b] w fun e w' => e = .returned (.int .i64 ((x + (b - 1)) / b)) ∧ w = w' := by
  have hne : (b == 0) = false := by simp; omega
  have hq : 0 ≤ (x + b - 1) / b := Int.ediv_nonneg (by omega) (by omega)
  have hq2 : (x + b - 1) / b ≤ x + b - 1 := Int.ediv_le_self _ (by omega)
  have ed : Int.tdiv (x + b - 1) b = (x + b - 1) / b := Int.tdiv_eq_ediv_of_nonneg (by omega)
  go_enter Try.func39, Try.ntmps39
  go_wp2
  go_ret
  exact ⟨ret_int (by first | (rw [ed]; congr 1; omega) | (congr 1; omega)), rfl⟩
theorem implKnots_eq (A : Option Addr) (n c B : Nat) (xs : List WeaverR) (l : Int) (w : World) (v : Int) (t : Bool) (h : RdF weaverF w B A n c xs) (hB : B ≤ w.heap.size) (hv : kn11 xs l = (v, t)) :
    Calls Try.prog 9 #[.slice A n c, .int .i64 l] w (Out w (.tuple #[.int .i64 v, .bool t])) := by
  have := implKnotsADay_any A n c B xs l w h hB
  rw [hv] at this
  exact this
noncomputable def days11 (xs : List WeaverR) (l k : Int) : Int × Bool :=
  if weaversB xs = true ∧ inB l 1 99 = true ∧ inB k 0 10000000 = true then (if knots11 xs l = 0 then (0, decide (k = 0)) else ((k + (knots11 xs l - 1)) / knots11 xs l, true)) else (0, false)
set_option maxRecDepth 100000 in
set_option maxHeartbeats 4000000 in
theorem implDaysForKnots_any (A : Option Addr) (n c B : Nat) (xs : List WeaverR) (l k : Int) (w : World) (h : RdF weaverF w B A n c xs) (hB : B ≤ w.heap.size) :
    Calls Try.prog 7 #[.slice A n c, .int .i64 l, .int .i64 k] w (Out w (.tuple #[.int .i64 (days11 xs l k).1, .bool (days11 xs l k).2])) := by
  by_cases hg : weaversB xs = true ∧ inB l 1 99 = true
  rotate_left
  · rw [show days11 xs l k = (0, false) from if_neg fun hh => hg ⟨hh.1, hh.2.1⟩]
    have hk := Lib.hid (show kn11 xs l = (0, false) from if_neg hg)
    go_enter Try.func7, Try.ntmps7
    go_wp2_with (go_at_call 9; refine (implKnots_eq A n c B xs l _ _ _ h hB hk.out).mono ?_; rintro e w1 ⟨rfl, hb⟩)
    go_ret2
    exact ⟨rfl, hb⟩
  obtain ⟨hg, hl⟩ := hg
  have hk := Lib.hid (kn11_good hg hl)
  obtain ⟨h0, h1⟩ := knots11_bd hg l
  by_cases hkn : inB k 0 10000000 = true
  rotate_left
  · rw [show days11 xs l k = (0, false) from if_neg fun hh => hkn hh.2.2]
    have hkn' := not_false hkn
    clear hkn
    generalize knots11 xs l = v at *
    go_enter Try.func7, Try.ntmps7
    go_wp2_with (first | (go_at_call 9; refine (implKnots_eq A n c B xs l _ _ _ h hB hk.out).mono ?_; rintro e w1 ⟨rfl, hb⟩) | (go_at_call 38; (with_reducible refine (isBetween_any _ _ _ _).mono ?_); rintro e w' ⟨rfl, rfl⟩))
    go_ret2
    exact ⟨rfl, hb⟩
  have hd := Lib.hid (show days11 xs l k = if knots11 xs l = 0 then (0, decide (k = 0)) else ((k + (knots11 xs l - 1)) / knots11 xs l, true) from if_pos ⟨hg, hl, hkn⟩)
  rw [hd.out]
  obtain ⟨hk0, hk1⟩ := inB_yes hkn
  clear hd
  generalize knots11 xs l = v at *
  by_cases hv : v = 0
  · rw [if_pos hv]
    subst hv
    go_enter Try.func7, Try.ntmps7
    go_wp2_with (first | (go_at_call 9; refine (implKnots_eq A n c B xs l _ _ _ h hB hk.out).mono ?_; rintro e w1 ⟨rfl, hb⟩) | (go_at_call 38; (with_reducible refine (isBetween_any _ _ _ _).mono ?_); rintro e w' ⟨rfl, rfl⟩))
    go_ret2
    exact ⟨by first | rfl | (congr 1; simp), hb⟩
  · rw [if_neg hv]
    have hv' : (v == 0) = false := by simp [hv]
    clear hv
    have hv1 : 1 ≤ v := by simp at hv'; omega
    go_enter Try.func7, Try.ntmps7
    go_wp2_with (first | (go_at_call 9; refine (implKnots_eq A n c B xs l _ _ _ h hB hk.out).mono ?_; rintro e w1 ⟨rfl, hb⟩) | (go_at_call 38; (with_reducible refine (isBetween_any _ _ _ _).mono ?_); rintro e w' ⟨rfl, rfl⟩) | (go_at_call 39; (with_reducible refine (divUp11_any _ _ _ (by omega) (by omega) (by omega) (by omega)).mono ?_); rintro e w' ⟨rfl, rfl⟩))
    go_ret2
    exact ⟨rfl, hb⟩
set_option maxRecDepth 100000 in
set_option maxHeartbeats 4000000 in
theorem specDaysForKnots_any (A : Option Addr) (n c B : Nat) (xs : List WeaverR) (l k : Int) (w : World) (h : RdF weaverF w B A n c xs) (hB : B ≤ w.heap.size) :
    Calls Try.prog 8 #[.slice A n c, .int .i64 l, .int .i64 k] w (Out w (.tuple #[.int .i64 (days11 xs l k).1, .bool (days11 xs l k).2])) := by
  by_cases hg : weaversB xs = true
  rotate_left
  · rw [show days11 xs l k = (0, false) from if_neg fun hh => hg hh.1]
    have hg' := not_false hg
    go_enter Try.func8, Try.ntmps8
    go_wp2_with (go_at_call 40; refine (l11Good_eq A n c B xs _ _ h hB hg').mono ?_; rintro e w1 ⟨rfl, hb⟩)
    go_ret2
    exact ⟨rfl, hb⟩
  by_cases hl : inB l 1 99 = true
  rotate_left
  · rw [show days11 xs l k = (0, false) from if_neg fun hh => hl hh.2.1]
    have hl' := not_false hl
    go_enter Try.func8, Try.ntmps8
    go_wp2_with (first | (go_at_call 40; refine (l11Good_eq A n c B xs _ _ h hB hg).mono ?_; rintro e w1 ⟨rfl, hb⟩) | (go_at_call 41; (with_reducible refine (l11Loom_any _ _).mono ?_); rintro e w' ⟨rfl, rfl⟩))
    go_ret2
    exact ⟨rfl, hb⟩
  by_cases hkn : inB k 0 10000000 = true
  rotate_left
  · rw [show days11 xs l k = (0, false) from if_neg fun hh => hkn hh.2.2]
    have hkn' := not_false hkn
    clear hkn
    go_enter Try.func8, Try.ntmps8
    go_wp2_with (first | (go_at_call 40; refine (l11Good_eq A n c B xs _ _ h hB hg).mono ?_; rintro e w1 ⟨rfl, hb⟩) | (go_at_call 41; (with_reducible refine (l11Loom_any _ _).mono ?_); rintro e w' ⟨rfl, rfl⟩) | (go_at_call 42; (with_reducible refine (l1In_any _ _ _ _).mono ?_); rintro e w' ⟨rfl, rfl⟩))
    go_ret2
    exact ⟨rfl, hb⟩
  have hd := Lib.hid (show days11 xs l k = if knots11 xs l = 0 then (0, decide (k = 0)) else ((k + (knots11 xs l - 1)) / knots11 xs l, true) from if_pos ⟨hg, hl, hkn⟩)
  rw [hd.out]
  obtain ⟨hk0, hk1⟩ := inB_yes hkn
  obtain ⟨h0, h1⟩ := knots11_bd hg l
  have HK : Hid (∀ w1 : World, Below w.heap.size w w1 → Calls Try.prog 43 #[.slice A n c, .int .i64 l] w1 fun e w' => e = .returned (.int .i64 (knots11 xs l)) ∧ w1 = w') := Lib.hid fun w1 hb => l11Knots_any A n c B xs l w1 (h.all hb hB) (Nat.le_trans hB hb.size) hg
  clear hd
  generalize knots11 xs l = v at *
  by_cases hv : v = 0
  · rw [if_pos hv]
    subst hv
    go_enter Try.func8, Try.ntmps8
    go_wp2_with (first | (go_at_call 40; refine (l11Good_eq A n c B xs _ _ h hB hg).mono ?_; rintro e w1 ⟨rfl, hb⟩) | (go_at_call 41; (with_reducible refine (l11Loom_any _ _).mono ?_); rintro e w' ⟨rfl, rfl⟩) | (go_at_call 42; (with_reducible refine (l1In_any _ _ _ _).mono ?_); rintro e w' ⟨rfl, rfl⟩) | (go_at_call 43; (with_reducible refine (HK.out _ hb).mono ?_); rintro e w' ⟨rfl, rfl⟩))
    go_ret2
    exact ⟨by first | rfl | (congr 1; simp), hb⟩
  · rw [if_neg hv]
    have hv' : (v == 0) = false := by simp [hv]
    clear hv
    have hv1 : 1 ≤ v := by simp at hv'; omega
    have hq : 0 ≤ (k + v - 1) / v := Int.ediv_nonneg (by omega) (by omega)
    have hq2 : (k + v - 1) / v ≤ k + v - 1 := Int.ediv_le_self _ (by omega)
    have ed : Int.tdiv (k + v - 1) v = (k + v - 1) / v := Int.tdiv_eq_ediv_of_nonneg (by omega)
    have eq1 := Lib.hid (show (k + v - 1) / v = (k + (v - 1)) / v by congr 1; omega)
    go_enter Try.func8, Try.ntmps8
    go_wp2_with (first | (go_at_call 40; refine (l11Good_eq A n c B xs _ _ h hB hg).mono ?_; rintro e w1 ⟨rfl, hb⟩) | (go_at_call 41; (with_reducible refine (l11Loom_any _ _).mono ?_); rintro e w' ⟨rfl, rfl⟩) | (go_at_call 42; (with_reducible refine (l1In_any _ _ _ _).mono ?_); rintro e w' ⟨rfl, rfl⟩) | (go_at_call 43; (with_reducible refine (HK.out _ hb).mono ?_); rintro e w' ⟨rfl, rfl⟩))
    go_ret2
    exact ⟨by rw [← eq1.out]; first | rfl | (rw [← ed]; rfl), hb⟩
end Go.Proofs.Ytanfblpibomfaaa
