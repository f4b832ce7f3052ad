/- The draws of the laws FnBorders and FnRings. Condition: a code of at most 65536 bytes. -/
import Derived.Test.YtjfdcmdgpeeabaaRinged
namespace Go.Proofs.Ytjfdcmdgpeeabaa
open Go.RowKit
set_option maxRecDepth 100000

/-- A draw of a chart and a list. -/
def GaveChartList (w : World) (e : Ending) (w' : World) : Prop := ∃ (W H : Int) (A : Option Addr) (c : Nat) (xs : List Int) (A' : Option Addr) (c' : Nat) (ps : List Int), e = .returned (.tuple #[chartV W H (.slice A xs.length c), .slice A' ps.length c']) ∧ Small W H xs ∧ ps.length ≤ 1000 ∧ Own w' w.heap.size (.slice A xs.length c) xs ∧ Own w' w.heap.size (.slice A' ps.length c') ps ∧ Below w.heap.size w w'
/-- A draw of two numbers. -/
def GaveTwo (w : World) (e : Ending) (w' : World) : Prop := ∃ a b : Int, e = .returned (.tuple #[.int .i64 a, .int .i64 b]) ∧ I64 a ∧ I64 b ∧ Below w.heap.size w w'
/-- A draw of three numbers. -/
def GaveThree (w : World) (e : Ending) (w' : World) : Prop := ∃ a b d : Int, e = .returned (.tuple #[.int .i64 a, .int .i64 b, .int .i64 d]) ∧ I64 a ∧ I64 b ∧ I64 d ∧ Below w.heap.size w w'
set_option maxRecDepth 100000 in
set_option maxHeartbeats 4000000 in
theorem drawRingOf_any (A : Option Addr) (n c B : Nat) (w : World) (h : RdB w B A n c) (hB : B ≤ w.heap.size) (hn : n ≤ 65536) : Calls Try.prog 51 #[.slice A n c] w (GaveChart w) := by
  have hb0 := (Below.refl w.heap.size w).alloc (Nat.le_refl _) (.cells #[.int .i64 0, .int .i64 0, .slice none 0 0] 26)
  have r0 := (Blk.new w #[.int .i64 0, .int .i64 0, .slice none 0 0] 26).alloc (.cells #[.slice A n c, .int .i64 0, .int .u64 0] 48)
  have hc0 : Cur ((w.alloc (.cells #[.int .i64 0, .int .i64 0, .slice none 0 0] 26)).alloc (.cells #[.slice A n c, .int .i64 0, .int .u64 0] 48)) (w.heap.size + 1) 0 := by
    have := cur_new (h.alloc hB (.cells #[.int .i64 0, .int .i64 0, .slice none 0 0] 26)) (by simp; omega) hn
    simpa using this
  have hb1 := hb0.alloc (by simp) (.cells #[.slice A n c, .int .i64 0, .int .u64 0] 48)
  clear h hb0
  go_enter Try.func51, Try.ntmps51
  go_wp2_with fail
  refine (ringed_any (w.heap.size + 1) 0 _ hc0 (by omega)).mono ?_
  rintro e w1 ⟨W, H, A1, c1, xs, rfl, hsm, own, hc1, hg1⟩
  have r1 := r0.mark hg1 (fun z hz => by cases hz; omega)
  have HB1 := hb1.trans (grown_below (B := w.heap.size) hg1 (by omega) (by simp; omega))
  have hne : ∀ z', (Value.slice A1 xs.length c1).ownBlock = some z' → z' ≠ w.heap.size + 1 := fun z' hz' => by have h1 := (own.bd z' hz').1; simp at h1; omega
  replace own := own.mono (show w.heap.size ≤ _ by simp; omega)
  clear hc0 hg1 r0 hb1
  clear hc1 hne
  have g0 := r1.cell 0
  have g1 := r1.cell 1
  have g2 := r1.cell 2
  have z0 := r1.frozen 0
  have z1 := r1.frozen 1
  have z2 := r1.frozen 2
  have F := fin3 (p := w.heap.size) (a := .int .i64 W) (b := .int .i64 H) (c := .slice A1 xs.length c1) own (row_ne' own.1 r1 (by decide)) HB1 (Nat.le_refl _)
  go_wp2
  exact bodyPost_ret (v := chartV W H (.slice A1 xs.length c1)) (by simp [results, Try.results51, go_sem, g0, g1, g2]) rfl ⟨W, H, A1, c1, xs, rfl, hsm, F.1, F.2⟩
set_option maxRecDepth 100000 in
set_option maxHeartbeats 4000000 in
theorem drawStripBorder_any (A : Option Addr) (n c B : Nat) (w : World) (h : RdB w B A n c) (hB : B ≤ w.heap.size) (hn : n ≤ 65536) : Calls Try.prog 16 #[.slice A n c] w (GaveChart w) := by
  have hb0 := (Below.refl w.heap.size w).alloc (Nat.le_refl _) (.cells #[.int .i64 0, .int .i64 0, .slice none 0 0] 26)
  have r0 := Blk.new w #[.int .i64 0, .int .i64 0, .slice none 0 0] 26
  have hR := h.alloc hB (.cells #[.int .i64 0, .int .i64 0, .slice none 0 0] 26)
  go_enter Try.func16, Try.ntmps16
  go_wp2_with fail
  refine (drawRingOf_any A n c B _ hR (by simp; omega) hn).mono ?_
  rintro e w1 ⟨W, H, A1, c1, xs, rfl, hsm, own, hb1⟩
  have r1 := r0.all hb1
  have HB1 := hb0.trans (hb1.mono (by simp))
  replace own := own.mono (show w.heap.size ≤ _ by simp)
  clear hb0 r0 hR hb1
  have g0 := r1.cell 0
  have g1 := r1.cell 1
  have g2 := r1.cell 2
  have z0 := r1.frozen 0
  have z1 := r1.frozen 1
  have z2 := r1.frozen 2
  have F := fin3 (p := w.heap.size) (a := .int .i64 W) (b := .int .i64 H) (c := .slice A1 xs.length c1) own (row_ne' own.1 r1 (by decide)) HB1 (Nat.le_refl _)
  go_wp2
  exact bodyPost_ret (v := chartV W H (.slice A1 xs.length c1)) (by simp [results, Try.results16, go_sem, g0, g1, g2]) rfl ⟨W, H, A1, c1, xs, rfl, hsm, F.1, F.2⟩
set_option maxRecDepth 100000 in
set_option maxHeartbeats 4000000 in
theorem drawDoesMeet_any (A : Option Addr) (n c B : Nat) (w : World) (h : RdB w B A n c) (hB : B ≤ w.heap.size) (hn : n ≤ 65536) : Calls Try.prog 13 #[.slice A n c] w (GaveChartList w) := by
  have hb0 := (Below.refl w.heap.size w).alloc (Nat.le_refl _) (.cells #[.int .i64 0, .int .i64 0, .slice none 0 0] 26)
  have r0 := (Blk.new w #[.int .i64 0, .int .i64 0, .slice none 0 0] 26).alloc (.cells #[.slice A n c, .int .i64 0, .int .u64 0] 48)
  have hc0 : Cur ((w.alloc (.cells #[.int .i64 0, .int .i64 0, .slice none 0 0] 26)).alloc (.cells #[.slice A n c, .int .i64 0, .int .u64 0] 48)) (w.heap.size + 1) 0 := by
    have := cur_new (h.alloc hB (.cells #[.int .i64 0, .int .i64 0, .slice none 0 0] 26)) (by simp; omega) hn
    simpa using this
  have hb1 := hb0.alloc (by simp) (.cells #[.slice A n c, .int .i64 0, .int .u64 0] 48)
  clear h hb0
  go_enter Try.func13, Try.ntmps13
  go_wp2_with fail
  refine (ringed_any (w.heap.size + 1) 0 _ hc0 (by omega)).mono ?_
  rintro e w1 ⟨W, H, A1, c1, xs, rfl, hsm, own, hc1, hg1⟩
  have r1 := r0.mark hg1 (fun z hz => by cases hz; omega)
  have HB1 := hb1.trans (grown_below (B := w.heap.size) hg1 (by omega) (by simp; omega))
  have hne : ∀ z', (Value.slice A1 xs.length c1).ownBlock = some z' → z' ≠ w.heap.size + 1 := fun z' hz' => by have h1 := (own.bd z' hz').1; simp at h1; omega
  replace own := own.mono (show w.heap.size ≤ _ by simp; omega)
  clear hc0 hg1 r0 hb1
  go_wp2_with fail
  refine (pattern8_any (w.heap.size + 1) (0 + 2000) _ hc1 (by omega)).mono ?_
  rintro e w2 ⟨A9, c9, ps, rfl, hp9, own9, hc2, hg2⟩
  have r2 := r1.mark hg2 (fun z hz => by cases hz; omega)
  have HB2 := HB1.trans (grown_below (B := w.heap.size) hg2 (by omega) (HB1.size))
  replace own9 := own9.mono (HB1.size)
  replace own := own.mark hg2 (fun z z' hz hz' => by cases hz; exact fun e => hne z' hz' e.symm)
  clear hc1 hc2 hg2 r1 HB1 hne
  have g0 := r2.cell 0
  have g1 := r2.cell 1
  have g2 := r2.cell 2
  have z0 := r2.frozen 0
  have z1 := r2.frozen 1
  have z2 := r2.frozen 2
  have F := fin3 (p := w.heap.size) (a := .int .i64 W) (b := .int .i64 H) (c := .slice A1 xs.length c1) own (row_ne' own.1 r2 (by decide)) HB2 (Nat.le_refl _)
  have F9 := fin3 (p := w.heap.size) (a := .int .i64 W) (b := .int .i64 H) (c := .slice A1 xs.length c1) own9 (row_ne' own9.1 r2 (by decide)) HB2 (Nat.le_refl _)
  go_wp2
  exact bodyPost_ret (v := .tuple #[chartV W H (.slice A1 xs.length c1), .slice A9 ps.length c9]) (by simp [results, Try.results13, go_sem, g0, g1, g2]) rfl ⟨W, H, A1, c1, xs, A9, c9, ps, rfl, hsm, (by omega), F.1, F9.1, F.2⟩
set_option maxRecDepth 100000 in
set_option maxHeartbeats 4000000 in
theorem drawNearestMeeting_any (A : Option Addr) (n c B : Nat) (w : World) (h : RdB w B A n c) (hB : B ≤ w.heap.size) (hn : n ≤ 65536) : Calls Try.prog 18 #[.slice A n c] w (GaveThree w) := by
  have HB := (Below.refl w.heap.size w).alloc (Nat.le_refl _) (.cells #[.slice A n c, .int .i64 0, .int .u64 0] 48)
  have C := cur_new h hB hn
  clear h
  go_enter Try.func18, Try.ntmps18
  go_wp2_with fail
  refine (among_lit w.heap.size 0 (w.heap.size + 1) 7 [2, 3, 5, 8, 1, 9, 6] (w.alloc (.cells #[.slice A n c, .int .i64 0, .int .u64 0] 48)) (by simp) rfl C (by omega) (by decide) (by decide) (I64.lit (by decide))).mono ?_
  rintro e w1 ⟨y0, rfl, hy, hc, hg⟩
  have hi0 : I64 y0 := by simp at hy; unfold I64; omega
  replace HB := HB.trans (grown_below (B := w.heap.size) hg (by omega) HB.size)
  replace C := hc
  clear hc hg hy
  go_wp2_with fail
  refine (among_lit w.heap.size (0 + 2) w1.heap.size 5 [2, 4, 8, 7, 1] w1 (by simp) rfl C (by omega) (by decide) (by decide) (I64.lit (by decide))).mono ?_
  rintro e w2 ⟨y1, rfl, hy, hc, hg⟩
  have hi1 : I64 y1 := by simp at hy; unfold I64; omega
  replace HB := HB.trans (grown_below (B := w.heap.size) hg (by omega) HB.size)
  replace C := hc
  clear hc hg hy
  go_wp2_with fail
  refine (among_lit w.heap.size ((0 + 2) + 2) w2.heap.size 9 [1, 2, 3, 4, 5, 7, 8, 0, 9] w2 (by simp) rfl C (by omega) (by decide) (by decide) (I64.lit (by decide))).mono ?_
  rintro e w3 ⟨y2, rfl, hy, hc, hg⟩
  have hi2 : I64 y2 := by simp at hy; unfold I64; omega
  replace HB := HB.trans (grown_below (B := w.heap.size) hg (by omega) HB.size)
  replace C := hc
  clear hc hg hy
  go_wp2
  exact bodyPost_ret (v := .tuple #[.int .i64 y0, .int .i64 y1, .int .i64 y2]) (by simp [results, Try.results18, go_sem]) rfl ⟨y0, y1, y2, rfl, hi0, hi1, hi2, HB⟩
end Go.Proofs.Ytjfdcmdgpeeabaa
