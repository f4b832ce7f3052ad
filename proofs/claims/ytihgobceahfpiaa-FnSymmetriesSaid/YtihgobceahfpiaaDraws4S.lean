/- The walks of the draws that the law of symmetries makes, and of its word vHas. Condition: a code of at most 65536 bytes. -/
import Derived.Test.YtihgobceahfpiaaDraws4
import Derived.Test.YtihgobceahfpiaaPlaces
import Derived.Test.YtihgobceahfpiaaBoth
namespace Go.Proofs.Ytihgobceahfpiaa
open Go.RowKit

theorem vHas_eq (A : Option Addr) (n c B : Nat) (xs : List Int) (x : Int) (w : World) (h : Rd w B A n c xs) (d : Bool) (hd : decide (x ∈ xs) = d) :
    Calls Try.prog 26 #[.slice A n c, .int .i64 x] w fun e w' => e = .returned (.bool d) ∧ w = w' := by
  have hn := h.len_lt
  obtain rfl := h.len
  have HD := Lib.hid hd
  clear hd
  go_enter Try.func26, Try.ntmps26
  go_wp2
  go_loopw [5] (fun i wr => ∃ j : Nat, j ≤ xs.length ∧ i = .int .i64 j ∧ Hid (∀ q, q < j → ¬ xs.getD q 0 = x) ∧ wr = w) (fun i _ => xs.length - (intOf i).toNat)
  case atStart => exact ⟨0, Nat.zero_le _, rfl, Lib.hid fun q hq => absurd hq (Nat.not_lt_zero _), rfl⟩
  case round =>
    obtain ⟨j, hj, rfl, HN, rfl⟩ := hrel
    by_cases hlt : j < xs.length
    · obtain ⟨b, off, y, rfl, _, hy, _, _, HY⟩ := h.at hlt
      by_cases hyx : y = x
      · subst hyx
        have H := Lib.hid (show d = true by
          rw [← HD.out, decide_eq_true_eq, ← HY.out, getD_at hlt]
          exact List.getElem_mem hlt)
        go_wp2
        go_ret
        exact ⟨ret_bool H.out.symm, by first | rfl | trivial⟩
      · have hne : (y == x) = false := by simpa using hyx
        have H := Lib.hid (show ∀ q, q < j + 1 → ¬ xs.getD q 0 = x from fun q hq => by
          by_cases e : q = j
          · subst e; rw [HY.out]; exact hyx
          · exact HN.out q (by omega))
        go_wp2
        go_roundw
        case rel => exact ⟨j + 1, by omega, by go_num, H, by first | rfl | trivial⟩
        case measure => simp [intOf]; omega
    · have H := Lib.hid (show d = false by
        rw [← HD.out, decide_eq_false_iff_not]
        intro hm
        obtain ⟨q, hq, e⟩ := List.getElem_of_mem hm
        exact HN.out q (by omega) (by rw [getD_at hq]; exact e))
      go_wp2
      go_ret
      exact ⟨ret_bool H.out.symm, by first | rfl | trivial⟩

set_option maxRecDepth 100000 in
set_option maxHeartbeats 1000000 in
theorem drawMoveChart_any (A : Option Addr) (n c B : Nat) (w : World) (h : RdB w B A n c) (hB : B ≤ w.heap.size) (hn : n ≤ 65536) : Calls Try.prog 28 #[.slice A n c] w (GaveChartInt w) := by
  have hb0 := (Below.refl w.heap.size w).alloc (Nat.le_refl _) (.cells #[.int .i64 0, .int .i64 0, .slice none 0 0] 26)
  have r0 := (Blk.new w #[.int .i64 0, .int .i64 0, .slice none 0 0] 26).alloc (.cells #[.slice A n c, .int .i64 0, .int .u64 0] 65)
  have hc0 : Cur ((w.alloc (.cells #[.int .i64 0, .int .i64 0, .slice none 0 0] 26)).alloc (.cells #[.slice A n c, .int .i64 0, .int .u64 0] 65)) (w.heap.size + 1) 0 := by
    have := cur_new (h.alloc hB (.cells #[.int .i64 0, .int .i64 0, .slice none 0 0] 26)) (by simp; omega) hn
    simpa using this
  have hb1 := hb0.alloc (by simp) (.cells #[.slice A n c, .int .i64 0, .int .u64 0] 65)
  clear h hb0
  go_enter Try.func28, Try.ntmps28
  go_wp2_with fail
  refine (chart_any (w.heap.size + 1) 0 _ hc0 (by omega)).mono ?_
  rintro e w1 ⟨W, H, A1, c1, xs, rfl, hsm, own, hc1, hg1⟩
  have r1 := r0.mark hg1 (fun z hz => by cases hz; omega)
  have HB1 := hb1.trans (grown_below (B := w.heap.size) hg1 (by omega) (by simp; omega))
  replace own := own.mono (show w.heap.size ≤ _ by simp; omega)
  clear hc0 hg1 r0 hb1
  go_wp2_with fail
  refine (symmetry_any (w.heap.size + 1) (0 + 1000) _ hc1 (by omega)).mono ?_
  rintro e w2 ⟨s, rfl, hs, hc2, hg2⟩
  have r9 := r1.mark hg2 (fun z hz => by cases hz; omega)
  have own2 := own.mark hg2 (fun z z' hz hz' => by cases hz; exact fun e => row_ne own.1 (show Blk w1 (w.heap.size + 1) 65 _ from hc1.choose_spec.choose_spec.choose_spec.choose_spec.choose_spec.choose_spec.1) (by decide) _ hz' e.symm)
  have HB2 := HB1.trans (grown_below (B := w.heap.size) hg2 (by omega) HB1.size)
  have g0 := r9.cell 0
  have g1 := r9.cell 1
  have g2 := r9.cell 2
  have z0 := r9.frozen 0
  have z1 := r9.frozen 1
  have z2 := r9.frozen 2
  have F := fin3 (p := w.heap.size) (a := .int .i64 W) (b := .int .i64 H) (c := .slice A1 xs.length c1) own2 (row_ne' own2.1 r9 (by decide)) HB2 (Nat.le_refl _)
  clear hc1 hc2 hg2 own r1
  go_wp2
  exact bodyPost_ret (v := .tuple #[chartV W H (.slice A1 xs.length c1), .int .i64 s]) (by simp [results, Try.results28, go_sem, g0, g1, g2]) rfl ⟨W, H, A1, c1, xs, s, rfl, hsm, ⟨by omega, by omega⟩, F.1, F.2⟩
set_option maxRecDepth 100000 in
set_option maxHeartbeats 1000000 in
theorem drawSymmetriesOf_any (A : Option Addr) (n c B : Nat) (w : World) (h : RdB w B A n c) (hB : B ≤ w.heap.size) (hn : n ≤ 65536) : Calls Try.prog 21 #[.slice A n c] w (GaveChart w) := by
  have hb0 := (Below.refl w.heap.size w).alloc (Nat.le_refl _) (.cells #[.int .i64 0, .int .i64 0, .slice none 0 0] 26)
  have r0 := (Blk.new w #[.int .i64 0, .int .i64 0, .slice none 0 0] 26).alloc (.cells #[.slice A n c, .int .i64 0, .int .u64 0] 65)
  have hc0 : Cur ((w.alloc (.cells #[.int .i64 0, .int .i64 0, .slice none 0 0] 26)).alloc (.cells #[.slice A n c, .int .i64 0, .int .u64 0] 65)) (w.heap.size + 1) 0 := by
    have := cur_new (h.alloc hB (.cells #[.int .i64 0, .int .i64 0, .slice none 0 0] 26)) (by simp; omega) hn
    simpa using this
  have hb1 := hb0.alloc (by simp) (.cells #[.slice A n c, .int .i64 0, .int .u64 0] 65)
  clear h hb0
  go_enter Try.func21, Try.ntmps21
  go_wp2_with fail
  refine (even_any (w.heap.size + 1) 0 _ hc0 (by omega)).mono ?_
  rintro e w1 ⟨W, H, A1, c1, xs, rfl, hsm, own, hc1, hg1⟩
  have r9 := r0.mark hg1 (fun z hz => by cases hz; omega)
  have HB1 := hb1.trans (grown_below (B := w.heap.size) hg1 (by omega) (by simp; omega))
  replace own := own.mono (show w.heap.size ≤ _ by simp; omega)
  have g0 := r9.cell 0
  have g1 := r9.cell 1
  have g2 := r9.cell 2
  have z0 := r9.frozen 0
  have z1 := r9.frozen 1
  have z2 := r9.frozen 2
  have F := fin3 (p := w.heap.size) (a := .int .i64 W) (b := .int .i64 H) (c := .slice A1 xs.length c1) own (row_ne' own.1 r9 (by decide)) HB1 (Nat.le_refl _)
  clear hc0 hg1 r0 hb1 hc1
  go_wp2
  exact bodyPost_ret (v := chartV W H (.slice A1 xs.length c1)) (by simp [results, Try.results21, go_sem, g0, g1, g2]) rfl ⟨W, H, A1, c1, xs, rfl, hsm, F.1, F.2⟩
set_option maxRecDepth 100000 in
set_option maxHeartbeats 2000000 in
theorem implUndoOf_same (s : Int) (w : World) : Calls Try.prog 25 #[.int .i64 s] w fun e w' => e = .returned (.tuple #[.int .i64 (undoN s), .bool (isSymB s)]) ∧ w = w' := by
  by_cases h1 : isSymB s = true
  · obtain ⟨n, rfl, hn⟩ := isSymB_yes h1
    have H := Lib.hid (show undoN n = undoI n by simp [undoN, h1])
    go_enter Try.func25, Try.ntmps25
    go_wp2_with (first | (go_at_call 75; (with_reducible refine (isSymmetry_any _ _).mono ?_); rintro e w' ⟨rfl, rfl⟩) | (go_at_call 76; (with_reducible refine (isMirroring_any _ _).mono ?_); rintro e w' ⟨rfl, rfl⟩))
    all_goals
      go_ret2
      exact ⟨ret2_ib (by rw [H.out]; unfold undoI; split <;> omega) h1.symm, by first | rfl | trivial⟩
  · have h3 := not_false h1
    have H := Lib.hid (show undoN s = 0 by simp [undoN, h3])
    go_enter Try.func25, Try.ntmps25
    go_wp2_with (go_at_call 75; (with_reducible refine (isSymmetry_any _ _).mono ?_); rintro e w' ⟨rfl, rfl⟩)
    go_ret2
    exact ⟨ret2_ib H.out.symm h3.symm, by first | rfl | trivial⟩
set_option maxRecDepth 100000 in
set_option maxHeartbeats 2000000 in
theorem implAfterBoth_same (a b : Int) (w : World) : Calls Try.prog 27 #[.int .i64 a, .int .i64 b] w fun e w' => e = .returned (.tuple #[.int .i64 (bothN a b), .bool (bothB a b)]) ∧ w = w' := by
  by_cases h1 : isSymB a = true
  · by_cases h2 : isSymB b = true
    · have H := Lib.hid (show bothN a b = bothI a b ∧ bothB a b = true by simp [bothN, bothB, h1, h2])
      obtain ⟨n, rfl, hn⟩ := isSymB_yes h1
      obtain ⟨m, rfl, hm⟩ := isSymB_yes h2
      go_enter Try.func27, Try.ntmps27
      go_wp2_with (first | (go_at_call 75; (with_reducible refine (isSymmetry_any _ _).mono ?_); rintro e w' ⟨rfl, rfl⟩) | (go_at_call 76; (with_reducible refine (isMirroring_any _ _).mono ?_); rintro e w' ⟨rfl, rfl⟩))
      all_goals
        go_ret2
        exact ⟨ret2_ib (by rw [H.out.1]; unfold bothI turnsI; simp_all <;> omega) H.out.2.symm, by first | rfl | trivial⟩
    · have h3 := not_false h2
      have H := Lib.hid (show bothN a b = 0 ∧ bothB a b = false by simp [bothN, bothB, h3])
      go_enter Try.func27, Try.ntmps27
      go_wp2_with (go_at_call 75; (with_reducible refine (isSymmetry_any _ _).mono ?_); rintro e w' ⟨rfl, rfl⟩)
      go_ret2
      exact ⟨ret2_ib H.out.1.symm H.out.2.symm, by first | rfl | trivial⟩
  · have h3 := not_false h1
    have H := Lib.hid (show bothN a b = 0 ∧ bothB a b = false by simp [bothN, bothB, h3])
    go_enter Try.func27, Try.ntmps27
    go_wp2_with (go_at_call 75; (with_reducible refine (isSymmetry_any _ _).mono ?_); rintro e w' ⟨rfl, rfl⟩)
    go_ret2
    exact ⟨ret2_ib H.out.1.symm H.out.2.symm, by first | rfl | trivial⟩
theorem undo_in {s : Int} (h : isSymB s = true) (w : World) : Calls Try.prog 25 #[.int .i64 s] w fun e w' => e = .returned (.tuple #[.int .i64 (undoN s), .bool true]) ∧ w = w' := by
  have := implUndoOf_same s w
  rw [h] at this
  exact this
theorem both_in {a b : Int} (h : bothB a b = true) (w : World) : Calls Try.prog 27 #[.int .i64 a, .int .i64 b] w fun e w' => e = .returned (.tuple #[.int .i64 (bothN a b), .bool true]) ∧ w = w' := by
  have := implAfterBoth_same a b w
  rw [h] at this
  exact this
set_option maxRecDepth 100000 in
set_option maxHeartbeats 400000 in
theorem drawAfterBoth_any (A : Option Addr) (n c B : Nat) (w : World) (h : RdB w B A n c) (hB : B ≤ w.heap.size) (hn : n ≤ 65536) : Calls Try.prog 31 #[.slice A n c] w fun e w' => ∃ a b : Int, e = .returned (.tuple #[.int .i64 a, .int .i64 b]) ∧ I64 a ∧ I64 b ∧ Below w.heap.size w w' := by
  have hc0 := cur_new h hB hn
  have hb0 := (Below.refl w.heap.size w).alloc (Nat.le_refl _) (.cells #[.slice A n c, .int .i64 0, .int .u64 0] 65)
  clear h
  go_enter Try.func31, Try.ntmps31
  go_wp2_with fail
  refine (symmetry_any w.heap.size 0 _ hc0 (by omega)).mono ?_
  rintro e w1 ⟨a, rfl, ha, hc1, hg1⟩
  have HB1 := hb0.trans (grown_below (B := w.heap.size) hg1 (by omega) (by simp))
  clear hc0 hg1 hb0
  go_wp2_with fail
  refine (symmetry_any w.heap.size (0 + 4) _ hc1 (by omega)).mono ?_
  rintro e w2 ⟨b, rfl, hb, hc2, hg2⟩
  have HB2 := HB1.trans (grown_below (B := w.heap.size) hg2 (by omega) HB1.size)
  clear hc1 hc2 hg2 HB1
  go_wp2
  exact bodyPost_ret (v := .tuple #[.int .i64 a, .int .i64 b]) (by simp [results, Try.results31, go_sem]) rfl ⟨a, b, rfl, ⟨by omega, by omega⟩, ⟨by omega, by omega⟩, HB2⟩
set_option maxRecDepth 100000 in
set_option maxHeartbeats 400000 in
theorem drawUndoOf_any (A : Option Addr) (n c B : Nat) (w : World) (h : RdB w B A n c) (hB : B ≤ w.heap.size) (hn : n ≤ 65536) : Calls Try.prog 34 #[.slice A n c] w fun e w' => ∃ a : Int, e = .returned (.int .i64 a) ∧ I64 a ∧ Below w.heap.size w w' := by
  have hc0 := cur_new h hB hn
  have hb0 := (Below.refl w.heap.size w).alloc (Nat.le_refl _) (.cells #[.slice A n c, .int .i64 0, .int .u64 0] 65)
  clear h
  go_enter Try.func34, Try.ntmps34
  go_wp2_with fail
  refine (symmetry_any w.heap.size 0 _ hc0 (by omega)).mono ?_
  rintro e w1 ⟨a, rfl, ha, hc1, hg1⟩
  have HB1 := hb0.trans (grown_below (B := w.heap.size) hg1 (by omega) (by simp))
  clear hc0 hg1 hb0 hc1
  go_wp2
  go_ret
  exact ⟨a, rfl, ⟨by omega, by omega⟩, HB1⟩
end Go.Proofs.Ytihgobceahfpiaa
