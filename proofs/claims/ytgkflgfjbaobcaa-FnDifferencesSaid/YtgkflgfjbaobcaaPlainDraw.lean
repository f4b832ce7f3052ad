/- The walk of the cursor's plain: a chart with a size and drawn knots. Condition: sides of at most 9, few draws. -/
import Derived.Test.YtgkflgfjbaobcaaPick
import Derived.Test.YtgkflgfjbaobcaaChartMath
namespace Go.Proofs.Ytgkflgfjbaobcaa
open Go.RowKit

/-- What a draw of a chart leaves: a chart of the call's own, the cursor, nothing else written. -/
def DrewChart (w : World) (p k : Nat) (P : Int → Int → List Int → Prop) (e : Ending) (w' : World) : Prop :=
  ∃ (W H : Int) (A : Option Addr) (c : Nat) (xs : List Int), e = .returned (chartV W H (.slice A xs.length c)) ∧ P W H xs ∧ Own w' w.heap.size (.slice A xs.length c) xs ∧ Cur w' p k ∧ w.grownBy w' (some p)
theorem Cur.far {w : World} {p k : Nat} (h : Cur w p k) {a : Addr} (ha : p < a.block) (u : Value) : Cur (w.setCell a u) p k := h.mark (grown_setCell w a u) (fun z hz => by cases hz; exact ha)
theorem Cur.below {w w' : World} {p k B : Nat} (h : Cur w p k) (hb : Below B w w') (hB : p < B) : Cur w' p k := by
  obtain ⟨B', A, n, c, a, sd, h1, h2, h3, h4, h5⟩ := h
  exact ⟨B', A, n, c, a, sd, h1.below hb hB, h2.keep (fun b o hbb => hb.cell (p := ⟨b, o, none⟩) (by show b < B; omega)), h3, h4, h5⟩
/-- Stores into blocks of the call's own, behind a draw. -/
theorem grown_own {w w1 w2 : World} {p : Nat} (h : w.grownBy w1 (some p)) (hb : Below w.heap.size w1 w2) : w.grownBy w2 (some p) :=
  ⟨hb.os.trans h.os, hb.tape.trans h.tape, hb.output.trans h.output, Nat.le_trans h.size hb.size, fun k hk hne => (hb.block k hk).trans (h.block k hk hne)⟩
set_option maxRecDepth 100000 in
set_option maxHeartbeats 4000000 in
theorem plain_any (p k W H : Nat) (w : World) (h : Cur w p k) (hk : k + 4 * (W * H) + 4 ≤ 4294967296) (hW : W ≤ 9) (hH : H ≤ 9) :
    Calls Try.prog 40 #[.pointer (some ⟨p, 0, none⟩), .int .i64 W, .int .i64 H] w (DrewChart w p (k + 4 * (W * H)) fun W' H' xs => W' = W ∧ H' = H ∧ xs.length = W * H) := by
  have hpw := h.lt
  have h81 : W * H ≤ 9 * 9 := Nat.mul_le_mul hW hH
  have q0 : (W : Int) * (H : Int) = ((W * H : Nat) : Int) := by rw [← Int.natCast_mul]
  have Q0 := Lib.hid q0
  have q1 : 0 ≤ (W : Int) * (H : Int) := by omega
  have q2 : (W : Int) * (H : Int) ≤ 81 := by omega
  clear q0
  have hb0 := (((Below.refl w.heap.size w).alloc (Nat.le_refl _) (.cells #[.int .i64 0, .int .i64 0, .slice none 0 0] 26)).alloc (by simp) (.cells #[] 3)).alloc (by simp; omega) (.cells #[.int .i64 W, .int .i64 H, .slice (some ⟨w.heap.size + 1, 0, none⟩) 0 0] 26)
  have HG := Lib.hid (below_grown (row := some p) hb0)
  have hc0 := h.below hb0 hpw
  have r0 := ((Blk.new w #[.int .i64 0, .int .i64 0, .slice none 0 0] 26).alloc (.cells #[] 3)).alloc (.cells #[.int .i64 W, .int .i64 H, .slice (some ⟨w.heap.size + 1, 0, none⟩) 0 0] 26)
  have o0 : Own ((w.alloc (.cells #[.int .i64 0, .int .i64 0, .slice none 0 0] 26)).alloc (.cells #[] 3)) w.heap.size (.slice (some ⟨w.heap.size + 1, 0, none⟩) 0 0) [] := by simpa using (Own.empty (w := w.alloc (.cells #[.int .i64 0, .int .i64 0, .slice none 0 0] 26)) (lo := w.heap.size) (by simp))
  have o1 := o0.alloc (.cells #[.int .i64 W, .int .i64 H, .slice (some ⟨w.heap.size + 1, 0, none⟩) 0 0] 26)
  have x1 : Blk (((w.alloc (.cells #[.int .i64 0, .int .i64 0, .slice none 0 0] 26)).alloc (.cells #[] 3)).alloc (.cells #[.int .i64 W, .int .i64 H, .slice (some ⟨w.heap.size + 1, 0, none⟩) 0 0] 26)) (w.heap.size + 1 + 1) 26 #[.int .i64 W, .int .i64 H, .slice (some ⟨w.heap.size + 1, 0, none⟩) 0 0] := (Blk.new _ _ _).at_ (by simp)
  clear h o0 hb0
  go_enter Try.func40, Try.ntmps40
  go_wp2
  go_loopw [8, 9] (fun s8 s9 wr => ∃ (j : Nat) (xs : List Int) (A : Option Addr) (c : Nat), j ≤ W * H ∧ s8 = .int .i64 j ∧ Hid (xs.length = j) ∧ Own wr w.heap.size (.slice A j c) xs ∧
      Blk wr (w.heap.size + 1 + 1) 26 #[.int .i64 W, .int .i64 H, .slice A j c] ∧ Blk wr w.heap.size 26 #[.int .i64 0, .int .i64 0, .slice none 0 0] ∧ Cur wr p (k + 4 * j) ∧ w.grownBy wr (some p))
    (fun s8 _ _ => W * H - (intOf s8).toNat)
  case atStart => exact ⟨0, [], _, 0, Nat.zero_le _, rfl, Lib.hid rfl, o1, x1, r0, hc0, HG.out⟩
  case round =>
    obtain ⟨j, xs, A, c, hj, rfl, HL, ho, x2, r2, hc, hgr⟩ := hrel
    have HG2 := Lib.hid hgr
    have hz2 := hgr.size
    have hpr := hc.lt
    have hol := ho.1.1
    clear hgr o1 x1 r0 hc0 HG hol
    by_cases hlt : j < W * H
    · have hjw : (j : Int) < (W : Int) * (H : Int) := by rw [Q0.out]; omega
      have hW1 : 1 ≤ W := by
        rcases Nat.eq_zero_or_pos W with h0 | h0
        · subst h0; simp at hlt
        · exact h0
      have hr := lit_rd wr [0, 0, 0, 1, 1, 2, 5] (by intro x hx; simp at hx; unfold I64; omega) (by decide)
      have hal := (Below.refl wr.heap.size wr).alloc (Nat.le_refl _) (.cells ([0, 0, 0, 1, 1, 2, 5].map (Value.int .i64)).toArray 3)
      have hc1 := hc.all hal
      go_wp2_with fail
      refine (among_any p (k + 4 * j) wr.heap.size 0 7 7 _ [0, 0, 0, 1, 1, 2, 5] _ hc1 (by omega) hr (by omega) (by omega) (by omega)).mono ?_
      rintro e w3 ⟨y, rfl, hy, hc3, hg3⟩
      have hy64 : I64 y := by simp at hy; unfold I64; omega
      have hg13 := grown_trans (below_grown (row := some p) hal) hg3
      have ho3 := ho.mark hg13 (fun z z' hz hz' => by cases hz; have := (ho.bd z' hz').1; omega)
      have x3 := x2.mark hg13 (fun z hz => by cases hz; omega)
      have r3 := r2.mark hg13 (fun z hz => by cases hz; omega)
      have HG3 := Lib.hid (grown_trans HG2.out hg13)
      have hz3 : w.heap.size ≤ w3.heap.size := HG3.out.size
      have hz4 := r3.lt
      clear hal hc hc1 hr hg3 hg13 ho x2 r2 HG2 hy
      by_cases hjW : W ≤ j
      · have hjWi : (W : Int) ≤ (j : Int) := by omega
        go_wp2_with fail
        refine (one_any p (k + 4 * j + 2) 3 _ hc3 (by omega) (by omega) (by omega)).mono ?_
        rintro e w4 ⟨d, rfl, hc4, hg4⟩
        have ho4 := ho3.mark hg4 (fun z z' hz hz' => by cases hz; have := (ho3.bd z' hz').1; omega)
        have x4 := x3.mark hg4 (fun z hz => by cases hz; omega)
        have r4 := r3.mark hg4 (fun z hz => by cases hz; omega)
        have HG4 := Lib.hid (grown_trans HG3.out hg4)
        have hz5 : w.heap.size ≤ w4.heap.size := HG4.out.size
        clear hc3 hg4 ho3 x3 r3 HG3
        cases d
        · have hz6 := r4.lt
          have f2 := x4.cell 2
          have fz := x4.frozen 2
          have hxl := x4.lt
          go_wp2_with (at_builtin; refine wpList_append_one w4 rfl (.tmp 39) (.tmp 41) 24 rfl Try.underlying24 info_int w.heap.size _ xs y rfl rfl ho4 (by rw [HL.out]; omega) hy64 hz5 ?_)
          intro A9 c9 w9 o9 hg9
          rw [HL.out] at o9 ⊢
          have x9 := x4.mark hg9 (row_ne ho4.1 x4 (by decide))
          have r9 := r4.mark hg9 (row_ne ho4.1 r4 (by decide))
          have c9' := hc4.mark hg9 (fun z hz => by have := (ho4.bd z hz).1; omega)
          have hb9 := (Below.refl w.heap.size w4).grown hg9 hz5 (fun z hz => (ho4.bd z hz).1)
          have f92 := x9.cell 2
          have f9z := x9.frozen 2
          have HL9 := Lib.hid (show (xs ++ [y]).length = j + 1 by rw [List.length_append, HL.out]; rfl)
          have HGA := Lib.hid (grown_own HG4.out (hb9.setCell (p := ⟨w.heap.size + 1 + 1, 2, none⟩) (by show w.heap.size ≤ w.heap.size + 1 + 1; omega) (.slice A9 (j + 1) c9)))
          have x10 := x9.set_ 2 (.slice A9 (j + 1) c9)
          have o10 := o9.far (a := ⟨w.heap.size + 1 + 1, 2, none⟩) (row_ne' o9.1 x9 (by decide)) (.slice A9 (j + 1) c9)
          have r10 := r9.far (a := ⟨w.heap.size + 1 + 1, 2, none⟩) (by simp; omega) (.slice A9 (j + 1) c9)
          have c10 := c9'.far (a := ⟨w.heap.size + 1 + 1, 2, none⟩) (by show p < w.heap.size + 1 + 1; omega) (.slice A9 (j + 1) c9)
          go_wp2
          go_roundw
          case rel => exact ⟨j + 1, _, A9, c9, by omega, by go_num, HL9, o10, by simpa using x10, r10, c10.more (by omega), HGA.out⟩
          case measure => simp [intOf]; omega
        · obtain ⟨g5, rfl, hg51, hg52⟩ := ho4.some_ (by rw [HL.out]; omega)
          have hlt2 : j - W < xs.length := by rw [HL.out]; omega
          obtain ⟨x5, HX5⟩ : ∃ x5, Hid (xs.getD (j - W) 0 = x5) := ⟨_, rfl⟩
          have hx5 := own_at ho4 hlt2 HX5.out
          have h64x : I64 x5 := by rw [← HX5.out, getD_at hlt2]; exact ho4.2 _ (List.getElem_mem hlt2)
          have hw5 : IntKind.i64.wrap ((j : Int) - (W : Int)) = ((j - W : Nat) : Int) := by rw [IntWalk.i64_in _ (by omega)]; omega
          have hij : j - W < j := by omega
          have hij2 : ((j - W : Nat) : Int) < (j : Int) := by omega
          have hij0 : (0 : Int) ≤ ((j - W : Nat) : Int) := by omega
          have hz6 := r4.lt
          have x42 := x4.cell 2
          have f2 := x4.cell 2
          have fz := x4.frozen 2
          have hxl := x4.lt
          go_wp2_with (at_builtin; refine wpList_append_one w4 rfl (.tmp 39) (.tmp 41) 24 rfl Try.underlying24 info_int w.heap.size _ xs x5 rfl rfl ho4 (by rw [HL.out]; omega) h64x hz5 ?_)
          intro A9 c9 w9 o9 hg9
          rw [HL.out] at o9 ⊢
          have x9 := x4.mark hg9 (row_ne ho4.1 x4 (by decide))
          have r9 := r4.mark hg9 (row_ne ho4.1 r4 (by decide))
          have c9' := hc4.mark hg9 (fun z hz => by have := (ho4.bd z hz).1; omega)
          have hb9 := (Below.refl w.heap.size w4).grown hg9 hz5 (fun z hz => (ho4.bd z hz).1)
          have f92 := x9.cell 2
          have f9z := x9.frozen 2
          have HL9 := Lib.hid (show (xs ++ [x5]).length = j + 1 by rw [List.length_append, HL.out]; rfl)
          have HGA := Lib.hid (grown_own HG4.out (hb9.setCell (p := ⟨w.heap.size + 1 + 1, 2, none⟩) (by show w.heap.size ≤ w.heap.size + 1 + 1; omega) (.slice A9 (j + 1) c9)))
          have x10 := x9.set_ 2 (.slice A9 (j + 1) c9)
          have o10 := o9.far (a := ⟨w.heap.size + 1 + 1, 2, none⟩) (row_ne' o9.1 x9 (by decide)) (.slice A9 (j + 1) c9)
          have r10 := r9.far (a := ⟨w.heap.size + 1 + 1, 2, none⟩) (by simp; omega) (.slice A9 (j + 1) c9)
          have c10 := c9'.far (a := ⟨w.heap.size + 1 + 1, 2, none⟩) (by show p < w.heap.size + 1 + 1; omega) (.slice A9 (j + 1) c9)
          go_wp2
          go_roundw
          case rel => exact ⟨j + 1, _, A9, c9, by omega, by go_num, HL9, o10, by simpa using x10, r10, c10.more (by omega), HGA.out⟩
          case measure => simp [intOf]; omega
      · have hjWi : (j : Int) < (W : Int) := by omega
        have f2 := x3.cell 2
        have fz := x3.frozen 2
        have hxl := x3.lt
        go_wp2_with (at_builtin; refine wpList_append_one w3 rfl (.tmp 39) (.tmp 41) 24 rfl Try.underlying24 info_int w.heap.size _ xs y rfl rfl ho3 (by rw [HL.out]; omega) hy64 hz3 ?_)
        intro A9 c9 w9 o9 hg9
        rw [HL.out] at o9 ⊢
        have x9 := x3.mark hg9 (row_ne ho3.1 x3 (by decide))
        have r9 := r3.mark hg9 (row_ne ho3.1 r3 (by decide))
        have c9' := hc3.mark hg9 (fun z hz => by have := (ho3.bd z hz).1; omega)
        have hb9 := (Below.refl w.heap.size w3).grown hg9 hz3 (fun z hz => (ho3.bd z hz).1)
        have f92 := x9.cell 2
        have f9z := x9.frozen 2
        have HL9 := Lib.hid (show (xs ++ [y]).length = j + 1 by rw [List.length_append, HL.out]; rfl)
        have HGA := Lib.hid (grown_own HG3.out (hb9.setCell (p := ⟨w.heap.size + 1 + 1, 2, none⟩) (by show w.heap.size ≤ w.heap.size + 1 + 1; omega) (.slice A9 (j + 1) c9)))
        have x10 := x9.set_ 2 (.slice A9 (j + 1) c9)
        have o10 := o9.far (a := ⟨w.heap.size + 1 + 1, 2, none⟩) (row_ne' o9.1 x9 (by decide)) (.slice A9 (j + 1) c9)
        have r10 := r9.far (a := ⟨w.heap.size + 1 + 1, 2, none⟩) (by simp; omega) (.slice A9 (j + 1) c9)
        have c10 := c9'.far (a := ⟨w.heap.size + 1 + 1, 2, none⟩) (by show p < w.heap.size + 1 + 1; omega) (.slice A9 (j + 1) c9)
        go_wp2
        go_roundw
        case rel => exact ⟨j + 1, _, A9, c9, by omega, by go_num, HL9, o10, by simpa using x10, r10, c10.more (by omega), HGA.out⟩
        case measure => simp [intOf]; omega
    · obtain rfl : j = W * H := by omega
      have hjw : ¬ ((W * H : Nat) : Int) < (W : Int) * (H : Int) := by rw [Q0.out]; omega
      have f0 := x2.cell 0
      have f1 := x2.cell 1
      have f2 := x2.cell 2
      have g0 := r2.cell 0
      have g1 := r2.cell 1
      have g2 := r2.cell 2
      have z0 := r2.frozen 0
      have z1 := r2.frozen 1
      have z2 := r2.frozen 2
      have F := fin3 (p := w.heap.size) (w0 := wr) (B := w.heap.size) (a := .int .i64 W) (b := .int .i64 H) (c := .slice A (W * H) c) ho (row_ne' ho.1 r2 (by decide)) (Below.refl _ _) (Nat.le_refl _)
      have hcF := hc.below F.2 hpw
      have hGF := grown_own HG2.out F.2
      have F1 := F.1
      clear F ho hc HG2 hjw
      go_wp2
      refine bodyPost_ret (v := chartV W H (.slice A (W * H) c)) (by simp [results, Try.results40, go_sem, g0, g1, g2]) rfl ⟨W, H, A, c, xs, ?_, ⟨rfl, rfl, HL.out⟩, ?_, hcF, hGF⟩
      · rw [HL.out]
      · rw [HL.out]; exact F1
end Go.Proofs.Ytgkflgfjbaobcaa
