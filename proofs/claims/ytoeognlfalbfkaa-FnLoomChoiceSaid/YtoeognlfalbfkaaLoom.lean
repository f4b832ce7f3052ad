/- The walks over one loom: valid or not. No condition. -/
import Derived.Test.YtoeognlfalbfkaaLoomMath
import Derived.IntWalk
namespace Go.Proofs.Ytoeognlfalbfkaa
open Go.RowKit

set_option maxRecDepth 100000 in
set_option maxHeartbeats 400000 in
theorem isLoomWide_any (x : Int) (w : World) : Calls Try.prog 47 #[.int .i64 x] w fun e w' => e = .returned (.bool (inB x 30 600)) ∧ w = w' := by
  go_enter Try.func47, Try.ntmps47
  go_wp2_with (go_at_call 39; (with_reducible refine (isBetween_any _ _ _ _).mono ?_); rintro e w' ⟨rfl, rfl⟩)
  go_ret
  exact ⟨rfl, rfl⟩
set_option maxRecDepth 100000 in
set_option maxHeartbeats 400000 in
theorem l5Wide_any (x : Int) (w : World) : Calls Try.prog 51 #[.int .i64 x] w fun e w' => e = .returned (.bool (inB x 30 600)) ∧ w = w' := by
  go_enter Try.func51, Try.ntmps51
  go_wp2_with (go_at_call 43; (with_reducible refine (l1In_any _ _ _ _).mono ?_); rintro e w' ⟨rfl, rfl⟩)
  go_ret
  exact ⟨rfl, rfl⟩
set_option maxRecDepth 100000 in
set_option maxHeartbeats 2000000 in
theorem implIsLoom_any (s : LoomR) (w : World) :
    Calls Try.prog 32 #[.agg #[.int .i64 s.f0, .int .i64 s.f1, .int .i64 s.f2, .int .i64 s.f3, .int .i64 s.f4]] w (Tells w (loomB s)) := by
  obtain ⟨id, wd, wa, pu, st⟩ := s
  have hb0 := Lib.hid (show Below w.heap.size w (w.alloc (.cells #[.int .i64 id, .int .i64 wd, .int .i64 wa, .int .i64 pu, .int .i64 st] 37)) from (Below.refl _ _).alloc (Nat.le_refl _) _)
  simp only
  by_cases h0 : inB id 1 99 = true
  rotate_left
  · have h0' := not_false h0
    have H := Lib.hid (loomB_no (s := ⟨id, wd, wa, pu, st⟩) fun hh => by
      obtain ⟨k0, k1, k2, k3, _⟩ := hh
      exact h0 (decide_eq_true k0))
    go_enter Try.func32, Try.ntmps32
    go_wp2_with (first | (go_at_call 39; (with_reducible refine (isBetween_any _ _ _ _).mono ?_); rintro e w' ⟨rfl, rfl⟩) | (go_at_call 47; (with_reducible refine (isLoomWide_any _ _).mono ?_); rintro e w' ⟨rfl, rfl⟩))
    all_goals
      go_ret
      exact ⟨ret_bool H.out.symm, hb0.out⟩
  by_cases h1 : inB wd 30 600 = true
  rotate_left
  · have h1' := not_false h1
    have H := Lib.hid (loomB_no (s := ⟨id, wd, wa, pu, st⟩) fun hh => by
      obtain ⟨k0, k1, k2, k3, _⟩ := hh
      exact h1 (decide_eq_true k1))
    go_enter Try.func32, Try.ntmps32
    go_wp2_with (first | (go_at_call 39; (with_reducible refine (isBetween_any _ _ _ _).mono ?_); rintro e w' ⟨rfl, rfl⟩) | (go_at_call 47; (with_reducible refine (isLoomWide_any _ _).mono ?_); rintro e w' ⟨rfl, rfl⟩))
    all_goals
      go_ret
      exact ⟨ret_bool H.out.symm, hb0.out⟩
  by_cases h2 : inB wa 0 4000 = true
  rotate_left
  · have h2' := not_false h2
    have H := Lib.hid (loomB_no (s := ⟨id, wd, wa, pu, st⟩) fun hh => by
      obtain ⟨k0, k1, k2, k3, _⟩ := hh
      exact h2 (decide_eq_true k2))
    go_enter Try.func32, Try.ntmps32
    go_wp2_with (first | (go_at_call 39; (with_reducible refine (isBetween_any _ _ _ _).mono ?_); rintro e w' ⟨rfl, rfl⟩) | (go_at_call 47; (with_reducible refine (isLoomWide_any _ _).mono ?_); rintro e w' ⟨rfl, rfl⟩))
    all_goals
      go_ret
      exact ⟨ret_bool H.out.symm, hb0.out⟩
  by_cases h3 : inB pu 0 500 = true
  rotate_left
  · have h3' := not_false h3
    have H := Lib.hid (loomB_no (s := ⟨id, wd, wa, pu, st⟩) fun hh => by
      obtain ⟨k0, k1, k2, k3, _⟩ := hh
      exact h3 (decide_eq_true k3))
    go_enter Try.func32, Try.ntmps32
    go_wp2_with (first | (go_at_call 39; (with_reducible refine (isBetween_any _ _ _ _).mono ?_); rintro e w' ⟨rfl, rfl⟩) | (go_at_call 47; (with_reducible refine (isLoomWide_any _ _).mono ?_); rintro e w' ⟨rfl, rfl⟩))
    all_goals
      go_ret
      exact ⟨ret_bool H.out.symm, hb0.out⟩
  have r0 := inB_yes h0
  have r1 := inB_yes h1
  have r2 := inB_yes h2
  have r3 := inB_yes h3
  have e12 : IntKind.i64.wrap (12 * wd) = 12 * wd := IntWalk.i64_in _ (by omega)
  have hgo := Lib.hid (fun hs : LoomSt ⟨id, wd, wa, pu, st⟩ => loomB_yes (s := ⟨id, wd, wa, pu, st⟩) ⟨r0, r1, r2, r3, hs⟩)
  have hno := Lib.hid (fun hs : ¬ LoomSt ⟨id, wd, wa, pu, st⟩ => loomB_no (s := ⟨id, wd, wa, pu, st⟩) fun hh => hs hh.2.2.2.2)
  by_cases s0 : st = 0
  · subst s0
    by_cases ha : wa = 0
    · by_cases hp : pu = 0
      · have H := Lib.hid (hgo.out (Or.inl ⟨rfl, ha, hp⟩))
        subst ha; subst hp
        go_enter Try.func32, Try.ntmps32
        go_wp2_with (first | (go_at_call 39; (with_reducible refine (isBetween_any _ _ _ _).mono ?_); rintro e w' ⟨rfl, rfl⟩) | (go_at_call 47; (with_reducible refine (isLoomWide_any _ _).mono ?_); rintro e w' ⟨rfl, rfl⟩))
        all_goals
          go_ret
          exact ⟨ret_bool H.out.symm, hb0.out⟩
      · have H := Lib.hid (hno.out (by unfold LoomSt; simp only; omega))
        have hp' : (pu == 0) = false := by simpa using hp
        subst ha
        go_enter Try.func32, Try.ntmps32
        go_wp2_with (first | (go_at_call 39; (with_reducible refine (isBetween_any _ _ _ _).mono ?_); rintro e w' ⟨rfl, rfl⟩) | (go_at_call 47; (with_reducible refine (isLoomWide_any _ _).mono ?_); rintro e w' ⟨rfl, rfl⟩))
        all_goals
          go_ret
          exact ⟨ret_bool H.out.symm, hb0.out⟩
    · have H := Lib.hid (hno.out (by unfold LoomSt; simp only; omega))
      have ha' : (wa == 0) = false := by simpa using ha
      go_enter Try.func32, Try.ntmps32
      go_wp2_with (first | (go_at_call 39; (with_reducible refine (isBetween_any _ _ _ _).mono ?_); rintro e w' ⟨rfl, rfl⟩) | (go_at_call 47; (with_reducible refine (isLoomWide_any _ _).mono ?_); rintro e w' ⟨rfl, rfl⟩))
      all_goals
        go_ret
        exact ⟨ret_bool H.out.symm, hb0.out⟩
  by_cases s1 : st = 1
  · subst s1
    by_cases ha : inB wa 10 (12 * wd) = true
    · have ra := inB_yes ha
      by_cases hp : 50 ≤ pu
      · have H := Lib.hid (hgo.out (Or.inr (Or.inl ⟨Or.inl rfl, ra.1, ra.2, hp⟩)))
        go_enter Try.func32, Try.ntmps32
        go_wp2_with (first | (go_at_call 39; (with_reducible refine (isBetween_any _ _ _ _).mono ?_); rintro e w' ⟨rfl, rfl⟩) | (go_at_call 47; (with_reducible refine (isLoomWide_any _ _).mono ?_); rintro e w' ⟨rfl, rfl⟩))
        all_goals
          go_ret
          exact ⟨ret_bool H.out.symm, hb0.out⟩
      · have H := Lib.hid (hno.out (by unfold LoomSt; simp only; omega))
        go_enter Try.func32, Try.ntmps32
        go_wp2_with (first | (go_at_call 39; (with_reducible refine (isBetween_any _ _ _ _).mono ?_); rintro e w' ⟨rfl, rfl⟩) | (go_at_call 47; (with_reducible refine (isLoomWide_any _ _).mono ?_); rintro e w' ⟨rfl, rfl⟩))
        all_goals
          go_ret
          exact ⟨ret_bool (by rw [H.out]; first | rfl | exact decide_eq_false (by omega)), hb0.out⟩
    · have H := Lib.hid (hno.out (fun hh => ha (decide_eq_true (by unfold LoomSt at hh; simp only at hh; omega))))
      have ha' := not_false ha
      go_enter Try.func32, Try.ntmps32
      go_wp2_with (first | (go_at_call 39; (with_reducible refine (isBetween_any _ _ _ _).mono ?_); rintro e w' ⟨rfl, rfl⟩) | (go_at_call 47; (with_reducible refine (isLoomWide_any _ _).mono ?_); rintro e w' ⟨rfl, rfl⟩))
      all_goals
        go_ret
        exact ⟨ret_bool H.out.symm, hb0.out⟩
  by_cases s2 : st = 2
  · subst s2
    by_cases ha : inB wa 10 (12 * wd) = true
    · have ra := inB_yes ha
      by_cases hp : 50 ≤ pu
      · have H := Lib.hid (hgo.out (Or.inr (Or.inl ⟨Or.inr rfl, ra.1, ra.2, hp⟩)))
        go_enter Try.func32, Try.ntmps32
        go_wp2_with (first | (go_at_call 39; (with_reducible refine (isBetween_any _ _ _ _).mono ?_); rintro e w' ⟨rfl, rfl⟩) | (go_at_call 47; (with_reducible refine (isLoomWide_any _ _).mono ?_); rintro e w' ⟨rfl, rfl⟩))
        all_goals
          go_ret
          exact ⟨ret_bool H.out.symm, hb0.out⟩
      · have H := Lib.hid (hno.out (by unfold LoomSt; simp only; omega))
        go_enter Try.func32, Try.ntmps32
        go_wp2_with (first | (go_at_call 39; (with_reducible refine (isBetween_any _ _ _ _).mono ?_); rintro e w' ⟨rfl, rfl⟩) | (go_at_call 47; (with_reducible refine (isLoomWide_any _ _).mono ?_); rintro e w' ⟨rfl, rfl⟩))
        all_goals
          go_ret
          exact ⟨ret_bool (by rw [H.out]; first | rfl | exact decide_eq_false (by omega)), hb0.out⟩
    · have H := Lib.hid (hno.out (fun hh => ha (decide_eq_true (by unfold LoomSt at hh; simp only at hh; omega))))
      have ha' := not_false ha
      go_enter Try.func32, Try.ntmps32
      go_wp2_with (first | (go_at_call 39; (with_reducible refine (isBetween_any _ _ _ _).mono ?_); rintro e w' ⟨rfl, rfl⟩) | (go_at_call 47; (with_reducible refine (isLoomWide_any _ _).mono ?_); rintro e w' ⟨rfl, rfl⟩))
      all_goals
        go_ret
        exact ⟨ret_bool H.out.symm, hb0.out⟩
  by_cases s3 : st = 3
  · subst s3
    have H := Lib.hid (hgo.out (Or.inr (Or.inr rfl)))
    go_enter Try.func32, Try.ntmps32
    go_wp2_with (first | (go_at_call 39; (with_reducible refine (isBetween_any _ _ _ _).mono ?_); rintro e w' ⟨rfl, rfl⟩) | (go_at_call 47; (with_reducible refine (isLoomWide_any _ _).mono ?_); rintro e w' ⟨rfl, rfl⟩))
    all_goals
      go_ret
      exact ⟨ret_bool H.out.symm, hb0.out⟩
  have H := Lib.hid (hno.out (by unfold LoomSt; simp only; omega))
  have s0' : (st == 0) = false := by simpa using s0
  have s1' : (st == 1) = false := by simpa using s1
  have s2' : (st == 2) = false := by simpa using s2
  have s3' : (st == 3) = false := by simpa using s3
  go_enter Try.func32, Try.ntmps32
  go_wp2_with (first | (go_at_call 39; (with_reducible refine (isBetween_any _ _ _ _).mono ?_); rintro e w' ⟨rfl, rfl⟩) | (go_at_call 47; (with_reducible refine (isLoomWide_any _ _).mono ?_); rintro e w' ⟨rfl, rfl⟩))
  all_goals
    go_ret
    exact ⟨ret_bool H.out.symm, hb0.out⟩
set_option maxRecDepth 100000 in
set_option maxHeartbeats 2000000 in
theorem l5One_any (s : LoomR) (w : World) :
    Calls Try.prog 55 #[.agg #[.int .i64 s.f0, .int .i64 s.f1, .int .i64 s.f2, .int .i64 s.f3, .int .i64 s.f4]] w (Tells w (loomB s)) := by
  obtain ⟨id, wd, wa, pu, st⟩ := s
  have hb0 := Lib.hid (show Below w.heap.size w (w.alloc (.cells #[.int .i64 id, .int .i64 wd, .int .i64 wa, .int .i64 pu, .int .i64 st] 37)) from (Below.refl _ _).alloc (Nat.le_refl _) _)
  simp only
  by_cases h0 : inB id 1 99 = true
  rotate_left
  · have h0' := not_false h0
    have H := Lib.hid (loomB_no (s := ⟨id, wd, wa, pu, st⟩) fun hh => by
      obtain ⟨k0, k1, k2, k3, _⟩ := hh
      exact h0 (decide_eq_true k0))
    go_enter Try.func55, Try.ntmps55
    go_wp2_with (first | (go_at_call 43; (with_reducible refine (l1In_any _ _ _ _).mono ?_); rintro e w' ⟨rfl, rfl⟩) | (go_at_call 51; (with_reducible refine (l5Wide_any _ _).mono ?_); rintro e w' ⟨rfl, rfl⟩))
    all_goals
      go_ret
      exact ⟨ret_bool H.out.symm, hb0.out⟩
  by_cases h1 : inB wd 30 600 = true
  rotate_left
  · have h1' := not_false h1
    have H := Lib.hid (loomB_no (s := ⟨id, wd, wa, pu, st⟩) fun hh => by
      obtain ⟨k0, k1, k2, k3, _⟩ := hh
      exact h1 (decide_eq_true k1))
    go_enter Try.func55, Try.ntmps55
    go_wp2_with (first | (go_at_call 43; (with_reducible refine (l1In_any _ _ _ _).mono ?_); rintro e w' ⟨rfl, rfl⟩) | (go_at_call 51; (with_reducible refine (l5Wide_any _ _).mono ?_); rintro e w' ⟨rfl, rfl⟩))
    all_goals
      go_ret
      exact ⟨ret_bool H.out.symm, hb0.out⟩
  by_cases h2 : inB wa 0 4000 = true
  rotate_left
  · have h2' := not_false h2
    have H := Lib.hid (loomB_no (s := ⟨id, wd, wa, pu, st⟩) fun hh => by
      obtain ⟨k0, k1, k2, k3, _⟩ := hh
      exact h2 (decide_eq_true k2))
    go_enter Try.func55, Try.ntmps55
    go_wp2_with (first | (go_at_call 43; (with_reducible refine (l1In_any _ _ _ _).mono ?_); rintro e w' ⟨rfl, rfl⟩) | (go_at_call 51; (with_reducible refine (l5Wide_any _ _).mono ?_); rintro e w' ⟨rfl, rfl⟩))
    all_goals
      go_ret
      exact ⟨ret_bool H.out.symm, hb0.out⟩
  by_cases h3 : inB pu 0 500 = true
  rotate_left
  · have h3' := not_false h3
    have H := Lib.hid (loomB_no (s := ⟨id, wd, wa, pu, st⟩) fun hh => by
      obtain ⟨k0, k1, k2, k3, _⟩ := hh
      exact h3 (decide_eq_true k3))
    go_enter Try.func55, Try.ntmps55
    go_wp2_with (first | (go_at_call 43; (with_reducible refine (l1In_any _ _ _ _).mono ?_); rintro e w' ⟨rfl, rfl⟩) | (go_at_call 51; (with_reducible refine (l5Wide_any _ _).mono ?_); rintro e w' ⟨rfl, rfl⟩))
    all_goals
      go_ret
      exact ⟨ret_bool H.out.symm, hb0.out⟩
  have r0 := inB_yes h0
  have r1 := inB_yes h1
  have r2 := inB_yes h2
  have r3 := inB_yes h3
  have e12 : IntKind.i64.wrap (12 * wd) = 12 * wd := IntWalk.i64_in _ (by omega)
  have hgo := Lib.hid (fun hs : LoomSt ⟨id, wd, wa, pu, st⟩ => loomB_yes (s := ⟨id, wd, wa, pu, st⟩) ⟨r0, r1, r2, r3, hs⟩)
  have hno := Lib.hid (fun hs : ¬ LoomSt ⟨id, wd, wa, pu, st⟩ => loomB_no (s := ⟨id, wd, wa, pu, st⟩) fun hh => hs hh.2.2.2.2)
  by_cases s0 : st = 0
  · subst s0
    by_cases ha : wa = 0
    · by_cases hp : pu = 0
      · have H := Lib.hid (hgo.out (Or.inl ⟨rfl, ha, hp⟩))
        subst ha; subst hp
        go_enter Try.func55, Try.ntmps55
        go_wp2_with (first | (go_at_call 43; (with_reducible refine (l1In_any _ _ _ _).mono ?_); rintro e w' ⟨rfl, rfl⟩) | (go_at_call 51; (with_reducible refine (l5Wide_any _ _).mono ?_); rintro e w' ⟨rfl, rfl⟩))
        all_goals
          go_ret
          exact ⟨ret_bool H.out.symm, hb0.out⟩
      · have H := Lib.hid (hno.out (by unfold LoomSt; simp only; omega))
        have hp' : (pu == 0) = false := by simpa using hp
        subst ha
        go_enter Try.func55, Try.ntmps55
        go_wp2_with (first | (go_at_call 43; (with_reducible refine (l1In_any _ _ _ _).mono ?_); rintro e w' ⟨rfl, rfl⟩) | (go_at_call 51; (with_reducible refine (l5Wide_any _ _).mono ?_); rintro e w' ⟨rfl, rfl⟩))
        all_goals
          go_ret
          exact ⟨ret_bool H.out.symm, hb0.out⟩
    · have H := Lib.hid (hno.out (by unfold LoomSt; simp only; omega))
      have ha' : (wa == 0) = false := by simpa using ha
      go_enter Try.func55, Try.ntmps55
      go_wp2_with (first | (go_at_call 43; (with_reducible refine (l1In_any _ _ _ _).mono ?_); rintro e w' ⟨rfl, rfl⟩) | (go_at_call 51; (with_reducible refine (l5Wide_any _ _).mono ?_); rintro e w' ⟨rfl, rfl⟩))
      all_goals
        go_ret
        exact ⟨ret_bool H.out.symm, hb0.out⟩
  by_cases s1 : st = 1
  · subst s1
    by_cases ha : inB wa 10 (12 * wd) = true
    · have ra := inB_yes ha
      by_cases hp : 50 ≤ pu
      · have H := Lib.hid (hgo.out (Or.inr (Or.inl ⟨Or.inl rfl, ra.1, ra.2, hp⟩)))
        go_enter Try.func55, Try.ntmps55
        go_wp2_with (first | (go_at_call 43; (with_reducible refine (l1In_any _ _ _ _).mono ?_); rintro e w' ⟨rfl, rfl⟩) | (go_at_call 51; (with_reducible refine (l5Wide_any _ _).mono ?_); rintro e w' ⟨rfl, rfl⟩))
        all_goals
          go_ret
          exact ⟨ret_bool H.out.symm, hb0.out⟩
      · have H := Lib.hid (hno.out (by unfold LoomSt; simp only; omega))
        go_enter Try.func55, Try.ntmps55
        go_wp2_with (first | (go_at_call 43; (with_reducible refine (l1In_any _ _ _ _).mono ?_); rintro e w' ⟨rfl, rfl⟩) | (go_at_call 51; (with_reducible refine (l5Wide_any _ _).mono ?_); rintro e w' ⟨rfl, rfl⟩))
        all_goals
          go_ret
          exact ⟨ret_bool (by rw [H.out]; first | rfl | exact decide_eq_false (by omega)), hb0.out⟩
    · have H := Lib.hid (hno.out (fun hh => ha (decide_eq_true (by unfold LoomSt at hh; simp only at hh; omega))))
      have ha' := not_false ha
      go_enter Try.func55, Try.ntmps55
      go_wp2_with (first | (go_at_call 43; (with_reducible refine (l1In_any _ _ _ _).mono ?_); rintro e w' ⟨rfl, rfl⟩) | (go_at_call 51; (with_reducible refine (l5Wide_any _ _).mono ?_); rintro e w' ⟨rfl, rfl⟩))
      all_goals
        go_ret
        exact ⟨ret_bool H.out.symm, hb0.out⟩
  by_cases s2 : st = 2
  · subst s2
    by_cases ha : inB wa 10 (12 * wd) = true
    · have ra := inB_yes ha
      by_cases hp : 50 ≤ pu
      · have H := Lib.hid (hgo.out (Or.inr (Or.inl ⟨Or.inr rfl, ra.1, ra.2, hp⟩)))
        go_enter Try.func55, Try.ntmps55
        go_wp2_with (first | (go_at_call 43; (with_reducible refine (l1In_any _ _ _ _).mono ?_); rintro e w' ⟨rfl, rfl⟩) | (go_at_call 51; (with_reducible refine (l5Wide_any _ _).mono ?_); rintro e w' ⟨rfl, rfl⟩))
        all_goals
          go_ret
          exact ⟨ret_bool H.out.symm, hb0.out⟩
      · have H := Lib.hid (hno.out (by unfold LoomSt; simp only; omega))
        go_enter Try.func55, Try.ntmps55
        go_wp2_with (first | (go_at_call 43; (with_reducible refine (l1In_any _ _ _ _).mono ?_); rintro e w' ⟨rfl, rfl⟩) | (go_at_call 51; (with_reducible refine (l5Wide_any _ _).mono ?_); rintro e w' ⟨rfl, rfl⟩))
        all_goals
          go_ret
          exact ⟨ret_bool (by rw [H.out]; first | rfl | exact decide_eq_false (by omega)), hb0.out⟩
    · have H := Lib.hid (hno.out (fun hh => ha (decide_eq_true (by unfold LoomSt at hh; simp only at hh; omega))))
      have ha' := not_false ha
      go_enter Try.func55, Try.ntmps55
      go_wp2_with (first | (go_at_call 43; (with_reducible refine (l1In_any _ _ _ _).mono ?_); rintro e w' ⟨rfl, rfl⟩) | (go_at_call 51; (with_reducible refine (l5Wide_any _ _).mono ?_); rintro e w' ⟨rfl, rfl⟩))
      all_goals
        go_ret
        exact ⟨ret_bool H.out.symm, hb0.out⟩
  by_cases s3 : st = 3
  · subst s3
    have H := Lib.hid (hgo.out (Or.inr (Or.inr rfl)))
    go_enter Try.func55, Try.ntmps55
    go_wp2_with (first | (go_at_call 43; (with_reducible refine (l1In_any _ _ _ _).mono ?_); rintro e w' ⟨rfl, rfl⟩) | (go_at_call 51; (with_reducible refine (l5Wide_any _ _).mono ?_); rintro e w' ⟨rfl, rfl⟩))
    all_goals
      go_ret
      exact ⟨ret_bool H.out.symm, hb0.out⟩
  have H := Lib.hid (hno.out (by unfold LoomSt; simp only; omega))
  have s0' : (st == 0) = false := by simpa using s0
  have s1' : (st == 1) = false := by simpa using s1
  have s2' : (st == 2) = false := by simpa using s2
  have s3' : (st == 3) = false := by simpa using s3
  go_enter Try.func55, Try.ntmps55
  go_wp2_with (first | (go_at_call 43; (with_reducible refine (l1In_any _ _ _ _).mono ?_); rintro e w' ⟨rfl, rfl⟩) | (go_at_call 51; (with_reducible refine (l5Wide_any _ _).mono ?_); rintro e w' ⟨rfl, rfl⟩))
  all_goals
    go_ret
    exact ⟨ret_bool H.out.symm, hb0.out⟩
set_option maxRecDepth 100000 in
set_option maxHeartbeats 400000 in
theorem specIsLoom_any (s : LoomR) (w : World) :
    Calls Try.prog 33 #[.agg #[.int .i64 s.f0, .int .i64 s.f1, .int .i64 s.f2, .int .i64 s.f3, .int .i64 s.f4]] w (Tells w (loomB s)) := by
  have hb0 := Lib.hid (show Below w.heap.size w (w.alloc (.cells #[.int .i64 s.f0, .int .i64 s.f1, .int .i64 s.f2, .int .i64 s.f3, .int .i64 s.f4] 37)) from (Below.refl _ _).alloc (Nat.le_refl _) _)
  go_enter Try.func33, Try.ntmps33
  go_wp2_with fail
  refine (l5One_any s _).mono ?_
  rintro e w1 ⟨rfl, hb⟩
  go_wp2
  go_ret
  exact ⟨rfl, hb0.out.trans (hb.mono (by simp))⟩
end Go.Proofs.Ytoeognlfalbfkaa
