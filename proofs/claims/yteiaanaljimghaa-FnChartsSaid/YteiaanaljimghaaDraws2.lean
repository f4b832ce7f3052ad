/- The draws of chapter 2's laws over a code, and the words in which they compare. Condition: a code of at most 65536 bytes. -/
import Derived.Test.YteiaanaljimghaaDrawChart
import Derived.Test.YteiaanaljimghaaChart
import Derived.Test.YteiaanaljimghaaText
import Derived.Test.YteiaanaljimghaaStands
import Derived.Lib.Strings
namespace Go.Proofs.Yteiaanaljimghaa
open Go.RowKit

/-- A chart small enough to be drawn. -/
def Small (W H : Int) (xs : List Int) : Prop := xs.length ≤ 1000 ∧ I64 W ∧ I64 H
/-- What a draw of a chart out of a code leaves. -/
def GaveChart (w : World) (e : Ending) (w' : World) : Prop := ∃ (W H : Int) (A : Option Addr) (c : Nat) (xs : List Int), e = .returned (chartV W H (.slice A xs.length c)) ∧ Small W H xs ∧ Own w' w.heap.size (.slice A xs.length c) xs ∧ Below w.heap.size w w'
/-- The same with two numbers. -/
def GaveChartTwo (w : World) (e : Ending) (w' : World) : Prop := ∃ (W H : Int) (A : Option Addr) (c : Nat) (xs : List Int) (f t : Int), e = .returned (.tuple #[chartV W H (.slice A xs.length c), .int .i64 f, .int .i64 t]) ∧ Small W H xs ∧ I64 f ∧ I64 t ∧ Own w' w.heap.size (.slice A xs.length c) xs ∧ Below w.heap.size w w'
theorem cur_new {w : World} {B n c : Nat} {A : Option Addr} (h : RdB w B A n c) (hB : B ≤ w.heap.size) (hn : n ≤ 65536) : Cur (w.alloc (.cells #[.slice A n c, .int .i64 0, .int .u64 0] 66)) w.heap.size 0 :=
  ⟨B, A, n, c, 0, 0, Blk.new _ _ _, h.alloc hB _, hB, hn, Nat.le_refl _⟩
theorem vBig_eq (A : Option Addr) (n c : Nat) (w : World) (hn : n ≤ 9223372036854775807) (d : Bool) (hd : decide (65536 < n) = d) : Calls Try.prog 6 #[.slice A n c] w fun e w' => e = .returned (.bool d) ∧ w = w' := by
  subst hd
  go_enter Try.func6, Try.ntmps6
  go_wp2
  go_ret
  exact ⟨ret_bool (by rw [Bool.eq_iff_iff]; simp <;> omega), rfl⟩
set_option maxRecDepth 100000 in
set_option maxHeartbeats 400000 in
theorem vInts_same (A A' : Option Addr) (n c n' c' B B' : Nat) (xs : List Int) (w : World) (h : Rd w B A n c xs) (h' : Rd w B' A' n' c' xs) :
    Calls Try.prog 18 #[.slice A n c, .slice A' n' c'] w fun e w' => e = .returned (.bool true) ∧ ∃ q, w' = w.drewN q := by
  have hn := h.len_lt
  obtain rfl : n' = n := by rw [← h.len, ← h'.len]
  go_enter Try.func18, Try.ntmps18
  go_wp2
  go_loopw [5] (fun i wr => ∃ k q : Nat, k ≤ n' ∧ i = .int .i64 k ∧ wr = w.drewN q) (fun i _ => n' - (intOf i).toNat)
  case atStart => exact ⟨0, 0, Nat.zero_le _, rfl, rfl⟩
  case round =>
    obtain ⟨k, q, hk, rfl, rfl⟩ := hrel
    by_cases hlt : k < n'
    · obtain ⟨b, off, x, rfl, _, hc, _, _, HX⟩ := h.at hlt
      obtain ⟨b', off', x', rfl, _, hc', _, _, HX'⟩ := h'.at hlt
      obtain rfl : x' = x := HX'.out.symm.trans HX.out
      go_wp2
      go_quiet (fail)
      go_wp2
      go_roundw
      case rel => exact ⟨k + 1, _, by omega, by go_num, rfl⟩
      case measure => simp [intOf]; omega
    · go_wp2
      go_ret
      exact ⟨rfl, _, rfl⟩
set_option maxRecDepth 100000 in
set_option maxHeartbeats 400000 in
theorem vChart_same (W H : Int) (A A' : Option Addr) (n c n' c' B B' : Nat) (xs : List Int) (w : World) (h : Rd w B A n c xs) (h' : Rd w B' A' n' c' xs) (hB : B ≤ w.heap.size) (hB' : B' ≤ w.heap.size) :
    Calls Try.prog 12 #[chartV W H (.slice A n c), chartV W H (.slice A' n' c')] w (Out w (.bool true)) := by
  go_enter Try.func12, Try.ntmps12
  go_wp2_with fail
  refine (vInts_same A A' n c n' c' B B' xs _ ((h.alloc hB _).alloc (by simp; omega) _) ((h'.alloc hB' _).alloc (by simp; omega) _)).mono ?_
  rintro e w1 ⟨rfl, q, rfl⟩
  go_wp2
  go_ret
  exact ⟨rfl, (((Below.refl _ _).alloc (Nat.le_refl _) _).alloc (by simp) _).trans ((low_drewN _ q).mono (by simp; omega))⟩
set_option maxRecDepth 100000 in
set_option maxHeartbeats 1000000 in
theorem drawIsChart_any (A : Option Addr) (n c B : Nat) (w : World) (h : RdB w B A n c) (hB : B ≤ w.heap.size) (hn : n ≤ 65536) : Calls Try.prog 41 #[.slice A n c] w (GaveChart w) := by
  have hb0 := (Below.refl w.heap.size w).alloc (Nat.le_refl _) (.cells #[.int .i64 0, .int .i64 0, .slice none 0 0] 26)
  have r0 := (Blk.new w #[.int .i64 0, .int .i64 0, .slice none 0 0] 26).alloc (.cells #[.slice A n c, .int .i64 0, .int .u64 0] 66)
  have hc0 : Cur ((w.alloc (.cells #[.int .i64 0, .int .i64 0, .slice none 0 0] 26)).alloc (.cells #[.slice A n c, .int .i64 0, .int .u64 0] 66)) (w.heap.size + 1) 0 := by
    have := cur_new (h.alloc hB (.cells #[.int .i64 0, .int .i64 0, .slice none 0 0] 26)) (by simp; omega) hn
    simpa using this
  have hb1 := hb0.alloc (by simp) (.cells #[.slice A n c, .int .i64 0, .int .u64 0] 66)
  clear h hb0
  go_enter Try.func41, Try.ntmps41
  go_wp2_with fail
  refine (chart_any (w.heap.size + 1) 0 _ hc0 (by omega)).mono ?_
  rintro e w1 ⟨W, H, A1, c1, xs, rfl, hsm, own, hc1, hg1⟩
  have r9 := r0.mark hg1 (fun z hz => by cases hz; omega)
  have HB1 := hb1.trans (grown_below (B := w.heap.size) hg1 (by omega) (by simp; omega))
  replace own := own.mono (show w.heap.size ≤ _ by simp; omega)
  have g0 := r9.cell 0
  have g1 := r9.cell 1
  have g2 := r9.cell 2
  have z0 := r9.frozen 0
  have z1 := r9.frozen 1
  have z2 := r9.frozen 2
  have F := fin3 (p := w.heap.size) (a := .int .i64 W) (b := .int .i64 H) (c := .slice A1 xs.length c1) own (row_ne' own.1 r9 (by decide)) HB1 (Nat.le_refl _)
  clear hc0 hg1 r0 hb1 hc1
  go_wp2
  exact bodyPost_ret (v := chartV W H (.slice A1 xs.length c1)) (by simp [results, Try.results41, go_sem, g0, g1, g2]) rfl ⟨W, H, A1, c1, xs, rfl, hsm, F.1, F.2⟩
set_option maxRecDepth 100000 in
set_option maxHeartbeats 400000 in
theorem drawChartText_any (A : Option Addr) (n c B : Nat) (w : World) (h : RdB w B A n c) (hB : B ≤ w.heap.size) (hn : n ≤ 65536) : Calls Try.prog 7 #[.slice A n c] w (GaveChart w) := by
  have hb0 := (Below.refl w.heap.size w).alloc (Nat.le_refl _) (.cells #[.int .i64 0, .int .i64 0, .slice none 0 0] 26)
  have r0 := Blk.new w #[.int .i64 0, .int .i64 0, .slice none 0 0] 26
  have h1 := h.alloc hB (.cells #[.int .i64 0, .int .i64 0, .slice none 0 0] 26)
  clear h
  go_enter Try.func7, Try.ntmps7
  go_wp2_with fail
  refine (drawIsChart_any A n c B _ h1 (by simp; omega) hn).mono ?_
  rintro e w1 ⟨W, H, A1, c1, xs, rfl, hsm, own, hb⟩
  have r9 := r0.all hb
  have HB1 := hb0.trans (hb.mono (by simp))
  replace own := own.mono (show w.heap.size ≤ _ by simp)
  have g0 := r9.cell 0
  have g1 := r9.cell 1
  have g2 := r9.cell 2
  have z0 := r9.frozen 0
  have z1 := r9.frozen 1
  have z2 := r9.frozen 2
  have F := fin3 (p := w.heap.size) (a := .int .i64 W) (b := .int .i64 H) (c := .slice A1 xs.length c1) own (row_ne' own.1 r9 (by decide)) HB1 (Nat.le_refl _)
  clear h1 hb r0 hb0
  go_wp2
  exact bodyPost_ret (v := chartV W H (.slice A1 xs.length c1)) (by simp [results, Try.results7, go_sem, g0, g1, g2]) rfl ⟨W, H, A1, c1, xs, rfl, hsm, F.1, F.2⟩
set_option maxRecDepth 100000 in
set_option maxHeartbeats 400000 in
theorem drawCountColors_any (A : Option Addr) (n c B : Nat) (w : World) (h : RdB w B A n c) (hB : B ≤ w.heap.size) (hn : n ≤ 65536) : Calls Try.prog 15 #[.slice A n c] w (GaveChart w) := by
  have hb0 := (Below.refl w.heap.size w).alloc (Nat.le_refl _) (.cells #[.int .i64 0, .int .i64 0, .slice none 0 0] 26)
  have r0 := Blk.new w #[.int .i64 0, .int .i64 0, .slice none 0 0] 26
  have h1 := h.alloc hB (.cells #[.int .i64 0, .int .i64 0, .slice none 0 0] 26)
  clear h
  go_enter Try.func15, Try.ntmps15
  go_wp2_with fail
  refine (drawIsChart_any A n c B _ h1 (by simp; omega) hn).mono ?_
  rintro e w1 ⟨W, H, A1, c1, xs, rfl, hsm, own, hb⟩
  have r9 := r0.all hb
  have HB1 := hb0.trans (hb.mono (by simp))
  replace own := own.mono (show w.heap.size ≤ _ by simp)
  have g0 := r9.cell 0
  have g1 := r9.cell 1
  have g2 := r9.cell 2
  have z0 := r9.frozen 0
  have z1 := r9.frozen 1
  have z2 := r9.frozen 2
  have F := fin3 (p := w.heap.size) (a := .int .i64 W) (b := .int .i64 H) (c := .slice A1 xs.length c1) own (row_ne' own.1 r9 (by decide)) HB1 (Nat.le_refl _)
  clear h1 hb r0 hb0
  go_wp2
  exact bodyPost_ret (v := chartV W H (.slice A1 xs.length c1)) (by simp [results, Try.results15, go_sem, g0, g1, g2]) rfl ⟨W, H, A1, c1, xs, rfl, hsm, F.1, F.2⟩
set_option maxRecDepth 100000 in
set_option maxHeartbeats 400000 in
theorem drawLongestRun_any (A : Option Addr) (n c B : Nat) (w : World) (h : RdB w B A n c) (hB : B ≤ w.heap.size) (hn : n ≤ 65536) : Calls Try.prog 23 #[.slice A n c] w (GaveChart w) := by
  have hb0 := (Below.refl w.heap.size w).alloc (Nat.le_refl _) (.cells #[.int .i64 0, .int .i64 0, .slice none 0 0] 26)
  have r0 := Blk.new w #[.int .i64 0, .int .i64 0, .slice none 0 0] 26
  have h1 := h.alloc hB (.cells #[.int .i64 0, .int .i64 0, .slice none 0 0] 26)
  clear h
  go_enter Try.func23, Try.ntmps23
  go_wp2_with fail
  refine (drawIsChart_any A n c B _ h1 (by simp; omega) hn).mono ?_
  rintro e w1 ⟨W, H, A1, c1, xs, rfl, hsm, own, hb⟩
  have r9 := r0.all hb
  have HB1 := hb0.trans (hb.mono (by simp))
  replace own := own.mono (show w.heap.size ≤ _ by simp)
  have g0 := r9.cell 0
  have g1 := r9.cell 1
  have g2 := r9.cell 2
  have z0 := r9.frozen 0
  have z1 := r9.frozen 1
  have z2 := r9.frozen 2
  have F := fin3 (p := w.heap.size) (a := .int .i64 W) (b := .int .i64 H) (c := .slice A1 xs.length c1) own (row_ne' own.1 r9 (by decide)) HB1 (Nat.le_refl _)
  clear h1 hb r0 hb0
  go_wp2
  exact bodyPost_ret (v := chartV W H (.slice A1 xs.length c1)) (by simp [results, Try.results23, go_sem, g0, g1, g2]) rfl ⟨W, H, A1, c1, xs, rfl, hsm, F.1, F.2⟩
set_option maxRecDepth 100000 in
set_option maxHeartbeats 1000000 in
theorem drawChangeColor_any (A : Option Addr) (n c B : Nat) (w : World) (h : RdB w B A n c) (hB : B ≤ w.heap.size) (hn : n ≤ 65536) : Calls Try.prog 20 #[.slice A n c] w (GaveChartTwo w) := by
  have hb0 := (Below.refl w.heap.size w).alloc (Nat.le_refl _) (.cells #[.int .i64 0, .int .i64 0, .slice none 0 0] 26)
  have r0 := (Blk.new w #[.int .i64 0, .int .i64 0, .slice none 0 0] 26).alloc (.cells #[.slice A n c, .int .i64 0, .int .u64 0] 66)
  have hc0 : Cur ((w.alloc (.cells #[.int .i64 0, .int .i64 0, .slice none 0 0] 26)).alloc (.cells #[.slice A n c, .int .i64 0, .int .u64 0] 66)) (w.heap.size + 1) 0 := by
    have := cur_new (h.alloc hB (.cells #[.int .i64 0, .int .i64 0, .slice none 0 0] 26)) (by simp; omega) hn
    simpa using this
  have hb1 := hb0.alloc (by simp) (.cells #[.slice A n c, .int .i64 0, .int .u64 0] 66)
  clear h hb0
  go_enter Try.func20, Try.ntmps20
  go_wp2_with fail
  refine (chart_any (w.heap.size + 1) 0 _ hc0 (by omega)).mono ?_
  rintro e w1 ⟨W, H, A1, c1, xs, rfl, hsm, own, hc1, hg1⟩
  have r1 := r0.mark hg1 (fun z hz => by cases hz; omega)
  have HB1 := hb1.trans (grown_below (B := w.heap.size) hg1 (by omega) (by simp; omega))
  have hne1 := fun z' hz' => row_ne own.1 (show Blk w1 (w.heap.size + 1) 66 _ from hc1.choose_spec.choose_spec.choose_spec.choose_spec.choose_spec.choose_spec.1) (by decide) z' hz'
  replace own := own.mono (show w.heap.size ≤ _ by simp; omega)
  clear hc0 hg1 r0 hb1
  go_wp2_with fail
  refine (color_any (w.heap.size + 1) (0 + 1000) _ hc1 (by omega)).mono ?_
  rintro e w2 ⟨f, rfl, hf, hc2, hg2⟩
  have r2 := r1.mark hg2 (fun z hz => by cases hz; omega)
  have own2 := own.mark hg2 (fun z z' hz hz' => by cases hz; exact fun e => hne1 z' hz' e.symm)
  have HB2 := HB1.trans (grown_below (B := w.heap.size) hg2 (by omega) HB1.size)
  clear hc1 hg2 r1 own HB1
  go_wp2_with fail
  refine (color_any (w.heap.size + 1) (0 + 1000 + 2) _ hc2 (by omega)).mono ?_
  rintro e w3 ⟨t, rfl, ht, hc3, hg3⟩
  have r9 := r2.mark hg3 (fun z hz => by cases hz; omega)
  have own3 := own2.mark hg3 (fun z z' hz hz' => by cases hz; exact fun e => hne1 z' hz' e.symm)
  have HB3 := HB2.trans (grown_below (B := w.heap.size) hg3 (by omega) HB2.size)
  have g0 := r9.cell 0
  have g1 := r9.cell 1
  have g2 := r9.cell 2
  have z0 := r9.frozen 0
  have z1 := r9.frozen 1
  have z2 := r9.frozen 2
  have F := fin3 (p := w.heap.size) (a := .int .i64 W) (b := .int .i64 H) (c := .slice A1 xs.length c1) own3 (row_ne' own3.1 r9 (by decide)) HB3 (Nat.le_refl _)
  clear hc2 hc3 hg3 own2 r2 hne1
  go_wp2
  exact bodyPost_ret (v := .tuple #[chartV W H (.slice A1 xs.length c1), .int .i64 f, .int .i64 t]) (by simp [results, Try.results20, go_sem, g0, g1, g2]) rfl ⟨W, H, A1, c1, xs, f, t, rfl, hsm, ⟨by omega, by omega⟩, ⟨by omega, by omega⟩, F.1, F.2⟩
/-- The sum of small numbers. -/
theorem sum_bd {xs : List Int} (h : ∀ x ∈ xs, 0 ≤ x ∧ x ≤ 1000) : ∀ k, 0 ≤ (xs.take k).sum ∧ (xs.take k).sum ≤ 1000 * k := by
  intro k
  induction k with
  | zero => simp
  | succ k ih =>
    by_cases hk : k < xs.length
    · rw [List.take_succ_eq_append_getElem hk, List.sum_append_int, List.sum_cons, List.sum_nil, Int.add_zero]
      have := h _ (List.getElem_mem hk)
      omega
    · rw [List.take_of_length_le (by omega)] at ih ⊢
      omega
set_option maxRecDepth 100000 in
set_option maxHeartbeats 400000 in
theorem vSum_any (A : Option Addr) (n c B : Nat) (xs : List Int) (w : World) (h : Rd w B A n c xs) (hn : n ≤ 1000) (hx : ∀ x ∈ xs, 0 ≤ x ∧ x ≤ 1000) :
    Calls Try.prog 19 #[.slice A n c] w fun e w' => e = .returned (.int .i64 xs.sum) ∧ w = w' := by
  have hl := h.len
  go_enter Try.func19, Try.ntmps19
  go_wp2
  go_loop [3, 4] (fun s i => ∃ k : Nat, k ≤ n ∧ i = .int .i64 k ∧ s = .int .i64 (xs.take k).sum) (fun _ i => n - (intOf i).toNat)
  case atStart => exact ⟨0, Nat.zero_le _, rfl, by simp⟩
  case round =>
    obtain ⟨k, hk, rfl, rfl⟩ := hrel
    by_cases hlt : k < n
    · obtain ⟨b, off, x, rfl, _, hc, _, _, HX⟩ := h.at hlt
      have hs := sum_bd hx k
      have hxb : 0 ≤ x ∧ x ≤ 1000 := by
        have := hx _ (List.getElem_mem (show k < xs.length by omega))
        rw [← HX.out, getD_at (by omega)]; exact this
      have HS := Lib.hid (show (xs.take (k + 1)).sum = (xs.take k).sum + x by
        rw [List.take_succ_eq_append_getElem (by omega), List.sum_append_int, List.sum_cons, List.sum_nil, Int.add_zero, ← HX.out, getD_at (by omega)])
      generalize (xs.take k).sum = S at *
      go_wp2
      go_round
      case rel => exact ⟨k + 1, by omega, by go_num, by rw [HS.out]⟩
      case measure => simp [intOf]; omega
    · obtain rfl : k = n := by omega
      rw [List.take_of_length_le (by omega)]
      go_wp2
      go_ret
      exact ⟨rfl, rfl⟩
theorem slice_bd (s : ByteArray) (a b : Nat) : (s.extract a b).size ≤ s.size := by
  rw [ByteArray.size_extract]; omega
set_option maxRecDepth 100000 in
set_option maxHeartbeats 4000000 in
theorem spoilt_any (p k : Nat) (s wi : ByteArray) (w : World) (h : Cur w p k) (hk : k + 6 ≤ 4294967296) (hs : s.size ≤ 1000) (hw1 : 1 ≤ wi.size) (hw : wi.size ≤ 1000) :
    Calls Try.prog 50 #[.pointer (some ⟨p, 0, none⟩), .string s, .string wi] w fun e w' => ∃ y : ByteArray, e = .returned (.string y) ∧ y.size ≤ 3000 ∧ Below p w w' := by
  have hpz := h.lt
  have HB0 := Below.refl p w
  by_cases h0 : s.size = 0
  · have he : s.toList.isEmpty = true := by
      rw [List.isEmpty_iff, Lib.toList_data]
      exact List.eq_nil_of_length_eq_zero (by rw [sizeL]; exact h0)
    have hwi : 1 ≤ (wi.size : Int) := by omega
    go_enter Try.func50, Try.ntmps50
    go_wp2
    go_ret
    exact ⟨_, rfl, by have := slice_bd wi 0 1; omega, HB0⟩
  · have he : s.toList.isEmpty = false := by
      rw [Lib.toList_data, List.isEmpty_eq_false_iff]
      intro e
      have := congrArg List.length e
      rw [sizeL] at this
      exact h0 this
    go_enter Try.func50, Try.ntmps50
    go_wp2_with fail
    refine (pick_any p k s.size _ h (by omega) (by omega) (by omega)).mono ?_
    rintro e w1 ⟨x, rfl, ⟨x0, x1⟩, hc1, hg1⟩
    obtain ⟨i, rfl⟩ := Int.eq_ofNat_of_zero_le x0
    have hi : i < s.size := by omega
    have HB1 := HB0.trans (grown_below (B := p) hg1 (Nat.le_refl _) (by omega))
    clear h hg1 x0 x1 HB0
    go_wp2_with fail
    refine (pick_any p (k + 2) wi.size _ hc1 (by omega) (by omega) (by omega)).mono ?_
    rintro e w2 ⟨y, rfl, ⟨y0, y1⟩, hc2, hg2⟩
    obtain ⟨j, rfl⟩ := Int.eq_ofNat_of_zero_le y0
    have hj : j < wi.size := by omega
    have HB2 := HB1.trans (grown_below (B := p) hg2 (Nat.le_refl _) (Nat.le_of_lt hc1.lt))
    have hz2 := hc2.lt
    have hV : (wi.extract j wi.size).size = wi.size - j := by rw [ByteArray.size_extract]; omega
    have hV2 : (wi.extract j wi.size).size ≤ 1000 := by omega
    have hji : (j : Int) ≤ (wi.size : Int) := by omega
    have hV1 : (1 : Int) ≤ ((wi.extract j wi.size).size : Int) := by omega
    have b1 := slice_bd s 0 i
    have b2 := slice_bd s i s.size
    have b3 := slice_bd s (i + 1) s.size
    have b4 := slice_bd (wi.extract j wi.size) 0 1
    have hil : (i : Int) ≤ (s.size : Int) := by omega
    have hil1 : (i : Int) + 1 ≤ (s.size : Int) := by omega
    clear hc1 hg2 y0 y1 HB1 hV
    generalize hVV : wi.extract j wi.size = V at *
    go_wp2_with fail
    refine (pick_any p (k + 2 + 2) 3 _ hc2 (by omega) (by omega) (by omega)).mono ?_
    rintro e w3 ⟨z, rfl, ⟨z0, z1⟩, hc3, hg3⟩
    have HB3 := HB2.trans (grown_below (B := p) hg3 (Nat.le_refl _) (Nat.le_of_lt hz2))
    have hzz : z = 0 ∨ z = 1 ∨ z = 2 := by omega
    clear hc2 hg3 z0 z1 HB2 hc3
    rcases hzz with rfl | rfl | rfl
    · go_wp2
      go_quiet (fail)
      go_wp2
      go_ret
      exact ⟨_, rfl, by (repeat rw [ByteArray.size_append]); omega, belowN HB3 _⟩
    · go_wp2
      go_quiet (fail)
      go_wp2
      go_ret
      exact ⟨_, rfl, by (repeat rw [ByteArray.size_append]); omega, belowN HB3 _⟩
    · go_wp2
      go_quiet (fail)
      go_wp2
      go_ret
      exact ⟨_, rfl, by (repeat rw [ByteArray.size_append]); omega, belowN HB3 _⟩
def sampleT : ByteArray := ⟨#[97, 97, 98, 47, 98, 98, 97]⟩
set_option maxRecDepth 100000 in
set_option maxHeartbeats 4000000 in
theorem drawParseChart_any (A : Option Addr) (n c B : Nat) (w : World) (h : RdB w B A n c) (hB : B ≤ w.heap.size) (hn : n ≤ 65536) : Calls Try.prog 13 #[.slice A n c] w fun e w' => ∃ s : ByteArray, e = .returned (.string s) ∧ s.size ≤ 4000 ∧ Below w.heap.size w w' := by
  have hc0 := cur_new h hB hn
  have hb0 := (Below.refl w.heap.size w).alloc (Nat.le_refl _) (.cells #[.slice A n c, .int .i64 0, .int .u64 0] 66)
  clear h
  go_enter Try.func13, Try.ntmps13
  go_wp2_with fail
  refine (chart_any w.heap.size 0 _ hc0 (by omega)).mono ?_
  rintro e w1 ⟨W, H, A1, c1, xs, rfl, hsm, own, hc1, hg1⟩
  have HB1 := hb0.trans (grown_below (B := w.heap.size) hg1 (Nat.le_refl _) (by simp))
  have hob := own.bd
  have x2 := Blk.new w1 #[.int .i64 W, .int .i64 H, .slice A1 xs.length c1] 26
  have o2 := own.alloc (.cells #[.int .i64 W, .int .i64 H, .slice A1 xs.length c1] 26)
  have hal := (Below.refl w1.heap.size w1).alloc (Nat.le_refl _) (.cells #[.int .i64 W, .int .i64 H, .slice A1 xs.length c1] 26)
  have c2 := hc1.all hal
  have HB2 := HB1.trans (hal.mono HB1.size)
  have f0 := x2.cell 0
  have f1 := x2.cell 1
  have f2 := x2.cell 2
  obtain ⟨gd, hgd⟩ : ∃ gd, goodB W H xs = gd := ⟨_, rfl⟩
  have hgood := l2Good_any W H A1 xs.length c1 _ xs _ o2.rd (Nat.le_refl _)
  rw [hgd] at hgood
  clear hc0 hg1 hb0 HB1 own hob hal hc1
  go_wp2_with fail
  refine hgood.mono ?_
  rintro e w3 ⟨rfl, hb3⟩
  have x3 := x2.all hb3
  have o3 := o2.all hb3
  have c3 := c2.all hb3
  have HB3 := HB2.trans (hb3.mono HB2.size)
  have f0 := x3.cell 0
  have f1 := x3.cell 1
  have f2 := x3.cell 2
  clear hgood x2 o2 c2 HB2 hb3
  cases gd
  · go_wp2_with fail
    refine (one_any w.heap.size (0 + 1000) 4 _ c3 (by omega) (by omega) (by omega)).mono ?_
    rintro e w4 ⟨d, rfl, c4, hg4⟩
    have HB4 := HB3.trans (grown_below (B := w.heap.size) hg4 (Nat.le_refl _) HB3.size)
    cases d
    · go_wp2
      go_ret
      exact ⟨_, rfl, (by decide : sampleT.size ≤ 4000), HB4⟩
    · go_wp2_with fail
      refine (spoilt_any w.heap.size (0 + 1000 + 2) sampleT ⟨#[97, 98, 103, 47]⟩ _ c4 (by omega) (by decide) (by decide) (by decide)).mono ?_
      rintro e w5 ⟨y, rfl, hy, hb5⟩
      go_wp2
      go_ret
      exact ⟨_, rfl, by omega, HB4.trans hb5⟩
  · obtain ⟨m, k, rfl, rfl, m1, m8, k1, k8, hl, h64, hl1, hcol⟩ := good_nat hgd
    obtain ⟨q, rfl, _, _⟩ := o3.some_ (by omega)
    have htext := l2Text_any m k q 0 c1 _ xs w3 o3.rd (Nat.le_refl _) m1 m8 h64 hcol
    have htl := tx_len m xs xs.length
    obtain ⟨T, hT⟩ : ∃ T : ByteArray, (⟨(tx m xs xs.length).toArray⟩ : ByteArray) = T := ⟨_, rfl⟩
    have hTs : T.size ≤ 200 := by rw [← hT]; simp [ByteArray.size]; omega
    rw [hT] at htext
    clear hT htl hl hgd
    go_wp2_with fail
    refine htext.mono ?_
    rintro e w4 ⟨rfl, hb4⟩
    have c4 := c3.all hb4
    have HB4 := HB3.trans (hb4.mono HB3.size)
    clear htext x3 o3 c3 HB3 hb4 f0 f1 f2
    go_wp2_with fail
    refine (one_any w.heap.size (0 + 1000) 4 _ c4 (by omega) (by omega) (by omega)).mono ?_
    rintro e w5 ⟨d, rfl, c5, hg5⟩
    have HB5 := HB4.trans (grown_below (B := w.heap.size) hg5 (Nat.le_refl _) HB4.size)
    cases d
    · go_wp2
      go_ret
      exact ⟨_, rfl, by omega, HB5⟩
    · go_wp2_with fail
      refine (spoilt_any w.heap.size (0 + 1000 + 2) T ⟨#[97, 98, 103, 47]⟩ _ c5 (by omega) (by omega) (by decide) (by decide)).mono ?_
      rintro e w6 ⟨y, rfl, hy, hb6⟩
      go_wp2
      go_ret
      exact ⟨_, rfl, by omega, HB5.trans hb6⟩
end Go.Proofs.Yteiaanaljimghaa
