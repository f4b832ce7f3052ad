/- The walks of chapter 4's draws, and of the words in which its laws compare. Condition: a code of at most 65536 bytes. -/
import Derived.Test.YtihgobceahfpiaaEven
namespace Go.Proofs.Ytihgobceahfpiaa
open Go.RowKit

/-- What a draw of a chart out of a code leaves. -/
def GaveChart (w : World) (e : Ending) (w' : World) : Prop := ∃ (W H : Int) (A : Option Addr) (c : Nat) (xs : List Int), e = .returned (chartV W H (.slice A xs.length c)) ∧ Small W H xs ∧ Own w' w.heap.size (.slice A xs.length c) xs ∧ Below w.heap.size w w'
/-- The same with a number. -/
def GaveChartInt (w : World) (e : Ending) (w' : World) : Prop := ∃ (W H : Int) (A : Option Addr) (c : Nat) (xs : List Int) (s : Int), e = .returned (.tuple #[chartV W H (.slice A xs.length c), .int .i64 s]) ∧ Small W H xs ∧ I64 s ∧ Own w' w.heap.size (.slice A xs.length c) xs ∧ Below w.heap.size w w'
theorem cur_new {w : World} {B n c : Nat} {A : Option Addr} (h : RdB w B A n c) (hB : B ≤ w.heap.size) (hn : n ≤ 65536) : Cur (w.alloc (.cells #[.slice A n c, .int .i64 0, .int .u64 0] 65)) w.heap.size 0 :=
  ⟨B, A, n, c, 0, 0, Blk.new _ _ _, h.alloc hB _, hB, hn, Nat.le_refl _⟩
theorem vBig_eq (A : Option Addr) (n c : Nat) (w : World) (hn : n ≤ 9223372036854775807) (d : Bool) (hd : decide (65536 < n) = d) : Calls Try.prog 6 #[.slice A n c] w fun e w' => e = .returned (.bool d) ∧ w = w' := by
  subst hd
  go_enter Try.func6, Try.ntmps6
  go_wp2
  go_ret
  exact ⟨ret_bool (by rw [Bool.eq_iff_iff]; simp <;> omega), rfl⟩
set_option maxRecDepth 100000 in
set_option maxHeartbeats 400000 in
theorem vInts_same (A A' : Option Addr) (n c n' c' B B' : Nat) (xs : List Int) (w : World) (h : Rd w B A n c xs) (h' : Rd w B' A' n' c' xs) :
    Calls Try.prog 24 #[.slice A n c, .slice A' n' c'] w fun e w' => e = .returned (.bool true) ∧ ∃ q, w' = w.drewN q := by
  have hn := h.len_lt
  obtain rfl : n' = n := by rw [← h.len, ← h'.len]
  go_enter Try.func24, Try.ntmps24
  go_wp2
  go_loopw [5] (fun i wr => ∃ k q : Nat, k ≤ n' ∧ i = .int .i64 k ∧ wr = w.drewN q) (fun i _ => n' - (intOf i).toNat)
  case atStart => exact ⟨0, 0, Nat.zero_le _, rfl, rfl⟩
  case round =>
    obtain ⟨k, q, hk, rfl, rfl⟩ := hrel
    by_cases hlt : k < n'
    · obtain ⟨b, off, x, rfl, _, hc, _, _, HX⟩ := h.at hlt
      obtain ⟨b', off', x', rfl, _, hc', _, _, HX'⟩ := h'.at hlt
      obtain rfl : x' = x := HX'.out.symm.trans HX.out
      go_wp2
      go_quiet (fail)
      go_wp2
      go_roundw
      case rel => exact ⟨k + 1, _, by omega, by go_num, rfl⟩
      case measure => simp [intOf]; omega
    · go_wp2
      go_ret
      exact ⟨rfl, _, rfl⟩
set_option maxRecDepth 100000 in
set_option maxHeartbeats 400000 in
theorem vChart_same (W H : Int) (A A' : Option Addr) (n c n' c' B B' : Nat) (xs : List Int) (w : World) (h : Rd w B A n c xs) (h' : Rd w B' A' n' c' xs) (hB : B ≤ w.heap.size) (hB' : B' ≤ w.heap.size) :
    Calls Try.prog 10 #[chartV W H (.slice A n c), chartV W H (.slice A' n' c')] w (Out w (.bool true)) := by
  go_enter Try.func10, Try.ntmps10
  go_wp2_with fail
  refine (vInts_same A A' n c n' c' B B' xs _ ((h.alloc hB _).alloc (by simp; omega) _) ((h'.alloc hB' _).alloc (by simp; omega) _)).mono ?_
  rintro e w1 ⟨rfl, q, rfl⟩
  go_wp2
  go_ret
  exact ⟨rfl, (((Below.refl _ _).alloc (Nat.le_refl _) _).alloc (by simp) _).trans ((low_drewN _ q).mono (by simp; omega))⟩
set_option maxRecDepth 100000 in
set_option maxHeartbeats 1000000 in
theorem drawHasSymmetry_any (A : Option Addr) (n c B : Nat) (w : World) (h : RdB w B A n c) (hB : B ≤ w.heap.size) (hn : n ≤ 65536) : Calls Try.prog 42 #[.slice A n c] w (GaveChartInt w) := by
  have hb0 := (Below.refl w.heap.size w).alloc (Nat.le_refl _) (.cells #[.int .i64 0, .int .i64 0, .slice none 0 0] 26)
  have r0 := (Blk.new w #[.int .i64 0, .int .i64 0, .slice none 0 0] 26).alloc (.cells #[.slice A n c, .int .i64 0, .int .u64 0] 65)
  have hc0 : Cur ((w.alloc (.cells #[.int .i64 0, .int .i64 0, .slice none 0 0] 26)).alloc (.cells #[.slice A n c, .int .i64 0, .int .u64 0] 65)) (w.heap.size + 1) 0 := by
    have := cur_new (h.alloc hB (.cells #[.int .i64 0, .int .i64 0, .slice none 0 0] 26)) (by simp; omega) hn
    simpa using this
  have hb1 := hb0.alloc (by simp) (.cells #[.slice A n c, .int .i64 0, .int .u64 0] 65)
  clear h hb0
  go_enter Try.func42, Try.ntmps42
  go_wp2_with fail
  refine (even_any (w.heap.size + 1) 0 _ hc0 (by omega)).mono ?_
  rintro e w1 ⟨W, H, A1, c1, xs, rfl, hsm, own, hc1, hg1⟩
  have r1 := r0.mark hg1 (fun z hz => by cases hz; omega)
  have HB1 := hb1.trans (grown_below (B := w.heap.size) hg1 (by omega) (by simp; omega))
  replace own := own.mono (show w.heap.size ≤ _ by simp; omega)
  clear hc0 hg1 r0 hb1
  go_wp2_with fail
  refine (symmetry_any (w.heap.size + 1) (0 + 3000) _ hc1 (by omega)).mono ?_
  rintro e w2 ⟨s, rfl, hs, hc2, hg2⟩
  have r9 := r1.mark hg2 (fun z hz => by cases hz; omega)
  have own2 := own.mark hg2 (fun z z' hz hz' => by cases hz; exact fun e => row_ne own.1 (show Blk w1 (w.heap.size + 1) 65 _ from hc1.choose_spec.choose_spec.choose_spec.choose_spec.choose_spec.choose_spec.1) (by decide) _ hz' e.symm)
  have HB2 := HB1.trans (grown_below (B := w.heap.size) hg2 (by omega) HB1.size)
  have g0 := r9.cell 0
  have g1 := r9.cell 1
  have g2 := r9.cell 2
  have z0 := r9.frozen 0
  have z1 := r9.frozen 1
  have z2 := r9.frozen 2
  have F := fin3 (p := w.heap.size) (a := .int .i64 W) (b := .int .i64 H) (c := .slice A1 xs.length c1) own2 (row_ne' own2.1 r9 (by decide)) HB2 (Nat.le_refl _)
  clear hc1 hc2 hg2 own r1
  go_wp2
  exact bodyPost_ret (v := .tuple #[chartV W H (.slice A1 xs.length c1), .int .i64 s]) (by simp [results, Try.results42, go_sem, g0, g1, g2]) rfl ⟨W, H, A1, c1, xs, s, rfl, hsm, ⟨by omega, by omega⟩, F.1, F.2⟩
set_option maxRecDepth 100000 in
set_option maxHeartbeats 1000000 in
theorem drawIsChart_any (A : Option Addr) (n c B : Nat) (w : World) (h : RdB w B A n c) (hB : B ≤ w.heap.size) (hn : n ≤ 65536) : Calls Try.prog 86 #[.slice A n c] w (GaveChart w) := by
  have hb0 := (Below.refl w.heap.size w).alloc (Nat.le_refl _) (.cells #[.int .i64 0, .int .i64 0, .slice none 0 0] 26)
  have r0 := (Blk.new w #[.int .i64 0, .int .i64 0, .slice none 0 0] 26).alloc (.cells #[.slice A n c, .int .i64 0, .int .u64 0] 65)
  have hc0 : Cur ((w.alloc (.cells #[.int .i64 0, .int .i64 0, .slice none 0 0] 26)).alloc (.cells #[.slice A n c, .int .i64 0, .int .u64 0] 65)) (w.heap.size + 1) 0 := by
    have := cur_new (h.alloc hB (.cells #[.int .i64 0, .int .i64 0, .slice none 0 0] 26)) (by simp; omega) hn
    simpa using this
  have hb1 := hb0.alloc (by simp) (.cells #[.slice A n c, .int .i64 0, .int .u64 0] 65)
  clear h hb0
  go_enter Try.func86, Try.ntmps86
  go_wp2_with fail
  refine (chart_any (w.heap.size + 1) 0 _ hc0 (by omega)).mono ?_
  rintro e w1 ⟨W, H, A1, c1, xs, rfl, hsm, own, hc1, hg1⟩
  have r9 := r0.mark hg1 (fun z hz => by cases hz; omega)
  have HB1 := hb1.trans (grown_below (B := w.heap.size) hg1 (by omega) (by simp; omega))
  replace own := own.mono (show w.heap.size ≤ _ by simp; omega)
  have g0 := r9.cell 0
  have g1 := r9.cell 1
  have g2 := r9.cell 2
  have z0 := r9.frozen 0
  have z1 := r9.frozen 1
  have z2 := r9.frozen 2
  have F := fin3 (p := w.heap.size) (a := .int .i64 W) (b := .int .i64 H) (c := .slice A1 xs.length c1) own (row_ne' own.1 r9 (by decide)) HB1 (Nat.le_refl _)
  clear hc0 hg1 r0 hb1 hc1
  go_wp2
  exact bodyPost_ret (v := chartV W H (.slice A1 xs.length c1)) (by simp [results, Try.results86, go_sem, g0, g1, g2]) rfl ⟨W, H, A1, c1, xs, rfl, hsm, F.1, F.2⟩
set_option maxRecDepth 100000 in
set_option maxHeartbeats 400000 in
theorem drawCompleteChart_any (A : Option Addr) (n c B : Nat) (w : World) (h : RdB w B A n c) (hB : B ≤ w.heap.size) (hn : n ≤ 65536) : Calls Try.prog 36 #[.slice A n c] w (GaveChartInt w) := by
  have hb0 := (Below.refl w.heap.size w).alloc (Nat.le_refl _) (.cells #[.int .i64 0, .int .i64 0, .slice none 0 0] 26)
  have r0 := Blk.new w #[.int .i64 0, .int .i64 0, .slice none 0 0] 26
  have h1 := h.alloc hB (.cells #[.int .i64 0, .int .i64 0, .slice none 0 0] 26)
  clear h
  go_enter Try.func36, Try.ntmps36
  go_wp2_with fail
  refine (drawHasSymmetry_any A n c B _ h1 (by simp; omega) hn).mono ?_
  rintro e w1 ⟨W, H, A1, c1, xs, s, rfl, hsm, hs, own, hb⟩
  have r9 := r0.all hb
  have HB1 := hb0.trans (hb.mono (by simp))
  replace own := own.mono (show w.heap.size ≤ _ by simp)
  have g0 := r9.cell 0
  have g1 := r9.cell 1
  have g2 := r9.cell 2
  have z0 := r9.frozen 0
  have z1 := r9.frozen 1
  have z2 := r9.frozen 2
  have F := fin3 (p := w.heap.size) (a := .int .i64 W) (b := .int .i64 H) (c := .slice A1 xs.length c1) own (row_ne' own.1 r9 (by decide)) HB1 (Nat.le_refl _)
  clear h1 hb r0 hb0
  go_wp2
  exact bodyPost_ret (v := .tuple #[chartV W H (.slice A1 xs.length c1), .int .i64 s]) (by simp [results, Try.results36, go_sem, g0, g1, g2]) rfl ⟨W, H, A1, c1, xs, s, rfl, hsm, hs, F.1, F.2⟩
set_option maxRecDepth 100000 in
set_option maxHeartbeats 400000 in
theorem drawTurnChart_any (A : Option Addr) (n c B : Nat) (w : World) (h : RdB w B A n c) (hB : B ≤ w.heap.size) (hn : n ≤ 65536) : Calls Try.prog 44 #[.slice A n c] w (GaveChart w) := by
  have hb0 := (Below.refl w.heap.size w).alloc (Nat.le_refl _) (.cells #[.int .i64 0, .int .i64 0, .slice none 0 0] 26)
  have r0 := Blk.new w #[.int .i64 0, .int .i64 0, .slice none 0 0] 26
  have h1 := h.alloc hB (.cells #[.int .i64 0, .int .i64 0, .slice none 0 0] 26)
  clear h
  go_enter Try.func44, Try.ntmps44
  go_wp2_with fail
  refine (drawIsChart_any A n c B _ h1 (by simp; omega) hn).mono ?_
  rintro e w1 ⟨W, H, A1, c1, xs, rfl, hsm, own, hb⟩
  have r9 := r0.all hb
  have HB1 := hb0.trans (hb.mono (by simp))
  replace own := own.mono (show w.heap.size ≤ _ by simp)
  have g0 := r9.cell 0
  have g1 := r9.cell 1
  have g2 := r9.cell 2
  have z0 := r9.frozen 0
  have z1 := r9.frozen 1
  have z2 := r9.frozen 2
  have F := fin3 (p := w.heap.size) (a := .int .i64 W) (b := .int .i64 H) (c := .slice A1 xs.length c1) own (row_ne' own.1 r9 (by decide)) HB1 (Nat.le_refl _)
  clear h1 hb r0 hb0
  go_wp2
  exact bodyPost_ret (v := chartV W H (.slice A1 xs.length c1)) (by simp [results, Try.results44, go_sem, g0, g1, g2]) rfl ⟨W, H, A1, c1, xs, rfl, hsm, F.1, F.2⟩
set_option maxRecDepth 100000 in
set_option maxHeartbeats 400000 in
theorem drawMirrorChart_any (A : Option Addr) (n c B : Nat) (w : World) (h : RdB w B A n c) (hB : B ≤ w.heap.size) (hn : n ≤ 65536) : Calls Try.prog 47 #[.slice A n c] w (GaveChart w) := by
  have hb0 := (Below.refl w.heap.size w).alloc (Nat.le_refl _) (.cells #[.int .i64 0, .int .i64 0, .slice none 0 0] 26)
  have r0 := Blk.new w #[.int .i64 0, .int .i64 0, .slice none 0 0] 26
  have h1 := h.alloc hB (.cells #[.int .i64 0, .int .i64 0, .slice none 0 0] 26)
  clear h
  go_enter Try.func47, Try.ntmps47
  go_wp2_with fail
  refine (drawIsChart_any A n c B _ h1 (by simp; omega) hn).mono ?_
  rintro e w1 ⟨W, H, A1, c1, xs, rfl, hsm, own, hb⟩
  have r9 := r0.all hb
  have HB1 := hb0.trans (hb.mono (by simp))
  replace own := own.mono (show w.heap.size ≤ _ by simp)
  have g0 := r9.cell 0
  have g1 := r9.cell 1
  have g2 := r9.cell 2
  have z0 := r9.frozen 0
  have z1 := r9.frozen 1
  have z2 := r9.frozen 2
  have F := fin3 (p := w.heap.size) (a := .int .i64 W) (b := .int .i64 H) (c := .slice A1 xs.length c1) own (row_ne' own.1 r9 (by decide)) HB1 (Nat.le_refl _)
  clear h1 hb r0 hb0
  go_wp2
  exact bodyPost_ret (v := chartV W H (.slice A1 xs.length c1)) (by simp [results, Try.results47, go_sem, g0, g1, g2]) rfl ⟨W, H, A1, c1, xs, rfl, hsm, F.1, F.2⟩
end Go.Proofs.Ytihgobceahfpiaa
