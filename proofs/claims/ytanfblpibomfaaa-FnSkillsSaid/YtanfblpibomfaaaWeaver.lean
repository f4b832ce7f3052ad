/- The walks over one weaver: valid or not, sums of skills, both texts. Condition: the name fits. -/
import Derived.Test.YtanfblpibomfaaaWeaverMath
import Derived.IntWalk
namespace Go.Proofs.Ytanfblpibomfaaa
open Go.RowKit

set_option maxRecDepth 100000 in
set_option maxHeartbeats 400000 in
theorem areSkills_any (x : Int) (w : World) : Calls Try.prog 57 #[.int .i64 x] w fun e w' => e = .returned (.bool (inB x 1 15)) ∧ w = w' := by
  go_enter Try.func57, Try.ntmps57
  go_wp2_with (go_at_call 38; (with_reducible refine (isBetween_any _ _ _ _).mono ?_); rintro e w' ⟨rfl, rfl⟩)
  go_ret
  exact ⟨rfl, rfl⟩
set_option maxRecDepth 100000 in
set_option maxHeartbeats 400000 in
theorem isLoomId_any (x : Int) (w : World) : Calls Try.prog 44 #[.int .i64 x] w fun e w' => e = .returned (.bool (inB x 1 99)) ∧ w = w' := by
  go_enter Try.func44, Try.ntmps44
  go_wp2_with (go_at_call 38; (with_reducible refine (isBetween_any _ _ _ _).mono ?_); rintro e w' ⟨rfl, rfl⟩)
  go_ret
  exact ⟨rfl, rfl⟩
set_option maxRecDepth 100000 in
set_option maxHeartbeats 400000 in
theorem l11Skills_any (x : Int) (w : World) : Calls Try.prog 60 #[.int .i64 x] w fun e w' => e = .returned (.bool (inB x 1 15)) ∧ w = w' := by
  go_enter Try.func60, Try.ntmps60
  go_wp2_with (go_at_call 42; (with_reducible refine (l1In_any _ _ _ _).mono ?_); rintro e w' ⟨rfl, rfl⟩)
  go_ret
  exact ⟨rfl, rfl⟩
set_option maxRecDepth 100000 in
set_option maxHeartbeats 400000 in
theorem l11Loom_any (x : Int) (w : World) : Calls Try.prog 41 #[.int .i64 x] w fun e w' => e = .returned (.bool (inB x 1 99)) ∧ w = w' := by
  go_enter Try.func41, Try.ntmps41
  go_wp2_with (go_at_call 42; (with_reducible refine (l1In_any _ _ _ _).mono ?_); rintro e w' ⟨rfl, rfl⟩)
  go_ret
  exact ⟨rfl, rfl⟩
set_option maxRecDepth 100000 in
set_option maxHeartbeats 400000 in
theorem hasSkills_any (a b : Int) (w : World) : Calls Try.prog 46 #[.int .i64 a, .int .i64 b] w fun e w' => e = .returned (.bool (hasB a b)) ∧ w = w' := by
  go_enter Try.func46, Try.ntmps46
  go_wp2
  go_ret
  exact ⟨ret_bool (by unfold hasB andI; by_cases h : bits .and .i64 a b = b <;> simp [h]), rfl⟩
set_option maxRecDepth 100000 in
set_option maxHeartbeats 400000 in
theorem isSkill_any (k : Int) (w : World) : Calls Try.prog 62 #[.int .i64 k] w fun e w' => e = .returned (.bool (oneSk k)) ∧ w = w' := by
  by_cases h1 : k = 1
  · subst h1
    go_enter Try.func62, Try.ntmps62
    go_wp2
    go_ret
    exact ⟨rfl, rfl⟩
  by_cases h2 : k = 2
  · subst h2
    go_enter Try.func62, Try.ntmps62
    go_wp2
    go_ret
    exact ⟨rfl, rfl⟩
  by_cases h4 : k = 4
  · subst h4
    go_enter Try.func62, Try.ntmps62
    go_wp2
    go_ret
    exact ⟨rfl, rfl⟩
  by_cases h8 : k = 8
  · subst h8
    go_enter Try.func62, Try.ntmps62
    go_wp2
    go_ret
    exact ⟨rfl, rfl⟩
  have H := Lib.hid (show oneSk k = false by simp [oneSk, h1, h2, h4, h8])
  have h1' : (k == 1) = false := by simp [h1]
  have h2' : (k == 2) = false := by simp [h2]
  have h4' : (k == 4) = false := by simp [h4]
  have h8' : (k == 8) = false := by simp [h8]
  clear h1 h2 h4 h8
  go_enter Try.func62, Try.ntmps62
  go_wp2
  go_ret
  exact ⟨ret_bool H.out.symm, rfl⟩
theorem weaver_loom (s : WeaverR) : (decide (s.f4 = 0) || inB s.f4 1 99) = inB s.f4 0 99 := by
  unfold inB
  rw [← Bool.decide_or]
  congr 1
  apply propext
  omega
set_option maxRecDepth 100000 in
set_option maxHeartbeats 1000000 in
theorem implIsWeaver_any (s : WeaverR) (w : World) (hm : s.f1.size ≤ maxLen) :
    Calls Try.prog 32 #[.agg #[.int .i64 s.f0, .string s.f1, .int .i64 s.f2, .int .i64 s.f3, .int .i64 s.f4]] w (Tells w (weaverB s)) := by
  obtain ⟨id, nm, sk, sp, lo⟩ := s
  have HL := Lib.hid (weaver_loom ⟨id, nm, sk, sp, lo⟩)
  simp only at hm ⊢
  by_cases hz : lo = 0
  · subst hz
    have hb0 := Lib.hid (show Below w.heap.size w (w.alloc (.cells #[.int .i64 id, .string nm, .int .i64 sk, .int .i64 sp, .int .i64 0] 40)) from (Below.refl _ _).alloc (Nat.le_refl _) _)
    go_enter Try.func32, Try.ntmps32
    go_wp2_with (first | (go_at_call 38; (with_reducible refine (isBetween_any _ _ _ _).mono ?_); rintro e w' ⟨rfl, rfl⟩) | (go_at_call 64; (with_reducible refine (isWord_any _ _ hm).mono ?_); rintro e w' ⟨rfl, rfl⟩) | (go_at_call 57; (with_reducible refine (areSkills_any _ _).mono ?_); rintro e w' ⟨rfl, rfl⟩) | (go_at_call 44; (with_reducible refine (isLoomId_any _ _).mono ?_); rintro e w' ⟨rfl, rfl⟩))
    all_goals
      go_ret
      have hl := HL.out
      exact ⟨ret_bool (by rw [weaverB, ← hl]; simp [*]), hb0.out⟩
  · have hz' : (lo == 0) = false := by simp [hz]
    have HZ := Lib.hid (show decide (lo = 0) = false by simp [hz])
    clear hz
    have hb0 := Lib.hid (show Below w.heap.size w (w.alloc (.cells #[.int .i64 id, .string nm, .int .i64 sk, .int .i64 sp, .int .i64 lo] 40)) from (Below.refl _ _).alloc (Nat.le_refl _) _)
    go_enter Try.func32, Try.ntmps32
    go_wp2_with (first | (go_at_call 38; (with_reducible refine (isBetween_any _ _ _ _).mono ?_); rintro e w' ⟨rfl, rfl⟩) | (go_at_call 64; (with_reducible refine (isWord_any _ _ hm).mono ?_); rintro e w' ⟨rfl, rfl⟩) | (go_at_call 57; (with_reducible refine (areSkills_any _ _).mono ?_); rintro e w' ⟨rfl, rfl⟩) | (go_at_call 44; (with_reducible refine (isLoomId_any _ _).mono ?_); rintro e w' ⟨rfl, rfl⟩))
    all_goals
      go_ret
      have hl := HL.out
      simp only [HZ.out, Bool.false_or] at hl
      exact ⟨ret_bool (by rw [weaverB, ← hl]; simp [*]), hb0.out⟩
set_option maxRecDepth 100000 in
set_option maxHeartbeats 1000000 in
theorem l11One_any (s : WeaverR) (w : World) (hm : s.f1.size ≤ maxLen) :
    Calls Try.prog 65 #[.agg #[.int .i64 s.f0, .string s.f1, .int .i64 s.f2, .int .i64 s.f3, .int .i64 s.f4]] w (Tells w (weaverB s)) := by
  have hb0 := Lib.hid (show Below w.heap.size w (w.alloc (.cells #[.int .i64 s.f0, .string s.f1, .int .i64 s.f2, .int .i64 s.f3, .int .i64 s.f4] 40)) from (Below.refl _ _).alloc (Nat.le_refl _) _)
  go_enter Try.func65, Try.ntmps65
  go_wp2_with (first | (go_at_call 42; (with_reducible refine (l1In_any _ _ _ _).mono ?_); rintro e w' ⟨rfl, rfl⟩) | (go_at_call 78; (with_reducible refine (l2Word_any _ _ hm).mono ?_); rintro e w' ⟨rfl, rfl⟩) | (go_at_call 60; (with_reducible refine (l11Skills_any _ _).mono ?_); rintro e w' ⟨rfl, rfl⟩))
  all_goals
    go_ret
    exact ⟨ret_bool (by simp [weaverB, *]), hb0.out⟩
theorem implIsWeaver_eq (s : WeaverR) (w : World) (hm : s.f1.size ≤ maxLen) (b : Bool) (h : weaverB s = b) : Calls Try.prog 32 #[.agg #[.int .i64 s.f0, .string s.f1, .int .i64 s.f2, .int .i64 s.f3, .int .i64 s.f4]] w (Tells w b) := h ▸ implIsWeaver_any s w hm
theorem l11One_eq (s : WeaverR) (w : World) (hm : s.f1.size ≤ maxLen) (b : Bool) (h : weaverB s = b) : Calls Try.prog 65 #[.agg #[.int .i64 s.f0, .string s.f1, .int .i64 s.f2, .int .i64 s.f3, .int .i64 s.f4]] w (Tells w b) := h ▸ l11One_any s w hm
set_option maxRecDepth 100000 in
set_option maxHeartbeats 400000 in
theorem specIsWeaver_any (s : WeaverR) (w : World) (hm : s.f1.size ≤ maxLen) :
    Calls Try.prog 33 #[.agg #[.int .i64 s.f0, .string s.f1, .int .i64 s.f2, .int .i64 s.f3, .int .i64 s.f4]] w (Tells w (weaverB s)) := by
  have hb0 := Lib.hid (show Below w.heap.size w (w.alloc (.cells #[.int .i64 s.f0, .string s.f1, .int .i64 s.f2, .int .i64 s.f3, .int .i64 s.f4] 40)) from (Below.refl _ _).alloc (Nat.le_refl _) _)
  go_enter Try.func33, Try.ntmps33
  go_wp2_with fail
  refine (l11One_any s _ hm).mono ?_
  rintro e w1 ⟨rfl, hb⟩
  go_wp2
  go_ret
  exact ⟨rfl, hb0.out.trans (hb.mono (by simp))⟩
end Go.Proofs.Ytanfblpibomfaaa
