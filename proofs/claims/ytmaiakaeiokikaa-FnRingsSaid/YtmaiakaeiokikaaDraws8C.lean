/- DrawPutRing. Condition: a code of at most 65536 bytes. -/
import Derived.Test.YtmaiakaeiokikaaDraws8
namespace Go.Proofs.Ytmaiakaeiokikaa
open Go.RowKit
set_option maxRecDepth 100000
theorem specLength_nat (W H : Int) (w : World) (hW : Side9 W) (hH : Side9 H) : Calls Try.prog 35 #[.int .i64 W, .int .i64 H] w fun e w' => e = .returned (.int .i64 (2 * W + 2 * H - 4)) ∧ w = w' := by
  unfold Side9 at hW hH
  go_enter Try.func35, Try.ntmps35
  go_wp2
  go_ret
  exact ⟨ret_int (by omega), by first | rfl | trivial⟩
set_option maxRecDepth 100000 in
set_option maxHeartbeats 16000000 in
theorem drawPutRing_any (A : Option Addr) (n c B : Nat) (w : World) (h : RdB w B A n c) (hB : B ≤ w.heap.size) (hn : n ≤ 65536) : Calls Try.prog 13 #[.slice A n c] w (GaveChartList w) := by
  have hb0 := (Below.refl w.heap.size w).alloc (Nat.le_refl _) (.cells #[.int .i64 0, .int .i64 0, .slice none 0 0] 26)
  have r0 := (Blk.new w #[.int .i64 0, .int .i64 0, .slice none 0 0] 26).alloc (.cells #[.slice A n c, .int .i64 0, .int .u64 0] 44)
  have hc0 : Cur ((w.alloc (.cells #[.int .i64 0, .int .i64 0, .slice none 0 0] 26)).alloc (.cells #[.slice A n c, .int .i64 0, .int .u64 0] 44)) (w.heap.size + 1) 0 := by
    have := cur_new (h.alloc hB (.cells #[.int .i64 0, .int .i64 0, .slice none 0 0] 26)) (by simp; omega) hn
    simpa using this
  have hb1 := hb0.alloc (by simp) (.cells #[.slice A n c, .int .i64 0, .int .u64 0] 44)
  clear h hb0
  go_enter Try.func13, Try.ntmps13
  go_wp2_with fail
  refine (ringed_any9 (w.heap.size + 1) 0 _ hc0 (by omega)).mono ?_
  rintro e w1 ⟨W, H, A1, c1, xs, rfl, ⟨hx1, hWs, hHs⟩, own, hc1, hg1⟩
  have r1 := r0.mark hg1 (fun z hz => by cases hz; omega)
  have HB1 := hb1.trans (grown_below (B := w.heap.size) hg1 (by omega) (by simp; omega))
  have hne : ∀ z', (Value.slice A1 xs.length c1).ownBlock = some z' → z' ≠ w.heap.size + 1 := fun z' hz' => by have h1 := (own.bd z' hz').1; simp at h1; omega
  replace own := own.mono (show w.heap.size ≤ _ by simp; omega)
  clear hc0 hg1 r0 hb1
  have hcl := hc1.lt
  have hrl := r1.lt
  have hol : ∀ z', (Value.slice A1 xs.length c1).ownBlock = some z' → z' < w1.heap.size := fun z' hz' => (own.bd z' hz').2
  have hal := (Below.refl w1.heap.size w1).alloc (Nat.le_refl _) (.cells #[.int .i64 W, .int .i64 H, .slice A1 xs.length c1] 26)
  have hal2 := hal.alloc hal.size (.cells #[] 3)
  have XN := (Blk.new w1 #[.int .i64 W, .int .i64 H, .slice A1 xs.length c1] 26).alloc (.cells #[] 3)
  have CN := hc1.all hal2
  have RN := r1.all hal2
  have ON := own.all hal2
  have HN := HB1.trans (hal2.mono HB1.size)
  have OP : Own ((w1.alloc (.cells #[.int .i64 W, .int .i64 H, .slice A1 xs.length c1] 26)).alloc (.cells #[] 3)) w1.heap.size (.slice (some ⟨w1.heap.size + 1, 0, none⟩) 0 0) [] := by simpa using (Own.empty (w := w1.alloc (.cells #[.int .i64 W, .int .i64 H, .slice A1 xs.length c1] 26)) (lo := w1.heap.size) (by simp))
  clear hal hal2 hc1 r1 own HB1
  have hWn := hWs
  have hHn := hHs
  unfold Side9 at hWn hHn
  go_wp2
  go_loopw [6, 7] (fun s6 s7 wr => ∃ (j : Nat) (ps : List Int) (A : Option Addr) (c : Nat), j ≤ 40 ∧ s7 = .int .i64 j ∧ s6 = .slice A j c ∧ Hid (ps.length = j) ∧ Own wr w1.heap.size (.slice A j c) ps ∧ Cur wr (w.heap.size + 1) (2000 + 2 * j) ∧ Blk wr w1.heap.size 26 #[.int .i64 W, .int .i64 H, .slice A1 xs.length c1] ∧ Blk wr w.heap.size 26 #[.int .i64 0, .int .i64 0, .slice none 0 0] ∧ Own wr w.heap.size (.slice A1 xs.length c1) xs ∧ Below w.heap.size w wr)
    (fun _ s7 _ => 40 - (intOf s7).toNat)
  case atStart => exact ⟨0, [], _, 0, Nat.zero_le _, rfl, rfl, Lib.hid rfl, OP, CN.more (by omega), XN, RN, ON, HN⟩
  case round =>
    clear OP CN XN RN ON HN
    obtain ⟨j, ps, A, c, hj, rfl, rfl, HL, OP, CN, XN, RN, ON, HN⟩ := hrel
    have ex0 := XN.cell 0
    have ex1 := XN.cell 1
    have ex2 := XN.cell 2
    have hlx := XN.lt
    go_wp2_with fail
    refine (specLength_nat W H _ hWs hHs).mono ?_
    rintro e w2 ⟨rfl, rfl⟩
    clear ex0 ex1 ex2
    by_cases hlt : (j : Int) < 2 * W + 2 * H - 4
    · go_wp2_with fail
      refine (among_lit (w.heap.size + 1) (2000 + 2 * j) wr.heap.size 4 [0, 1, 2, 5] wr rfl rfl CN (by omega) (by decide) (by decide) (I64.lit (by decide))).mono ?_
      rintro e w3 ⟨y, rfl, hy, hc, hg⟩
      have hy64 : I64 y := by simp at hy; unfold I64; omega
      replace XN := XN.mark hg (fun z hz => by cases hz; omega)
      replace RN := RN.mark hg (fun z hz => by cases hz; omega)
      replace HN := HN.trans (grown_below (B := w.heap.size) hg (by omega) HN.size)
      replace ON := ON.mark hg (fun z z' hz hz' => by cases hz; exact fun e => hne z' hz' e.symm)
      replace OP := OP.mark hg (fun z z' hz hz' => by cases hz; have := (OP.bd z' hz').1; omega)
      replace CN := hc
      have hlx := XN.lt
      clear hc hg hy
      go_wp2_with (at_builtin; refine wpList_append_one w3 rfl (.tmp 23) (.tmp 27) 24 rfl Try.underlying24 info_int w1.heap.size _ ps y rfl rfl OP (by rw [HL.out]; omega) hy64 (by omega) ?_)
      intro A9 c9 w9 o9 hg9
      rw [HL.out] at o9 ⊢
      have HL9 := Lib.hid (show (ps ++ [y]).length = j + 1 by rw [List.length_append, HL.out]; rfl)
      replace CN := CN.mark hg9 (fun z hz => by have := (OP.bd z hz).1; omega)
      replace HN := HN.trans ((Below.refl w.heap.size w3).grown hg9 HN.size (fun z hz => by have := (OP.bd z hz).1; omega))
      replace RN := RN.mark hg9 (row_ne OP.1 RN (by decide))
      replace XN := XN.mark hg9 (row_ne OP.1 XN (by decide))
      replace ON := ON.mark hg9 (fun z z' hz hz' => by have h1 := (OP.bd z hz).1; have h2 := hol z' hz'; omega)
      clear OP
      have OP := o9
      clear o9 hg9
      go_wp2
      go_roundw
      case rel => exact ⟨j + 1, _, A9, c9, by omega, by go_num, rfl, HL9, OP, CN.more (by omega), XN, RN, ON, HN⟩
      case measure => simp [intOf]; omega
    · go_wp2_with fail
      clear hlt
      refine (pick_any (w.heap.size + 1) (2000 + 2 * j) 16 _ CN (by omega) (by omega) (by omega)).mono ?_
      rintro e w3 ⟨y, rfl, ⟨hy0, hy1⟩, hc, hg⟩
      replace XN := XN.mark hg (fun z hz => by cases hz; omega)
      replace RN := RN.mark hg (fun z hz => by cases hz; omega)
      replace HN := HN.trans (grown_below (B := w.heap.size) hg (by omega) HN.size)
      replace ON := ON.mark hg (fun z z' hz hz' => by cases hz; exact fun e => hne z' hz' e.symm)
      replace OP := OP.mark hg (fun z z' hz hz' => by cases hz; have := (OP.bd z' hz').1; omega)
      replace CN := hc
      have hlx := XN.lt
      clear hc hg hy0 hy1
      by_cases h0 : y = 0
      · subst h0
        have hy64 : I64 0 := by unfold I64; omega
        go_wp2_with (at_builtin; refine wpList_append_one w3 rfl (.tmp 33) (.tmp 34) 24 rfl Try.underlying24 info_int w1.heap.size _ ps 0 rfl rfl OP (by rw [HL.out]; omega) hy64 (by omega) ?_)
        intro A9 c9 w9 o9 hg9
        rw [HL.out] at o9 ⊢
        have HL9 := Lib.hid (show (ps ++ [0]).length = j + 1 by rw [List.length_append, HL.out]; rfl)
        replace CN := CN.mark hg9 (fun z hz => by have := (OP.bd z hz).1; omega)
        replace HN := HN.trans ((Below.refl w.heap.size w3).grown hg9 HN.size (fun z hz => by have := (OP.bd z hz).1; omega))
        replace RN := RN.mark hg9 (row_ne OP.1 RN (by decide))
        replace XN := XN.mark hg9 (row_ne OP.1 XN (by decide))
        replace ON := ON.mark hg9 (fun z z' hz hz' => by have h1 := (OP.bd z hz).1; have h2 := hol z' hz'; omega)
        clear OP
        have OP := o9
        clear o9 hg9
        have ex0 := XN.cell 0
        have ex1 := XN.cell 1
        have ex2 := XN.cell 2
        have g0 := RN.cell 0
        have g1 := RN.cell 1
        have g2 := RN.cell 2
        have z0 := RN.frozen 0
        have z1 := RN.frozen 1
        have z2 := RN.frozen 2
        have F := fin3 (p := w.heap.size) (a := .int .i64 W) (b := .int .i64 H) (c := .slice A1 xs.length c1) ON (row_ne' ON.1 RN (by decide)) HN (Nat.le_refl _)
        have F9 := fin3 (p := w.heap.size) (a := .int .i64 W) (b := .int .i64 H) (c := .slice A1 xs.length c1) (OP.mono (show w.heap.size ≤ w1.heap.size by omega)) (row_ne' OP.1 RN (by decide)) HN (Nat.le_refl _)
        go_wp2
        exact bodyPost_ret (v := .tuple #[chartV W H (.slice A1 xs.length c1), .slice A9 (j + 1) c9]) (by simp [results, Try.results13, go_sem, g0, g1, g2]) rfl ⟨W, H, A1, c1, xs, A9, c9, (ps ++ [0]), by rw [HL9.out], ⟨hx1, hWs.fit, hHs.fit⟩, (by rw [HL9.out]; omega), F.1, (by rw [HL9.out]; exact F9.1), F.2⟩
      by_cases h1 : y = 1
      · subst h1
        by_cases hz : 0 < j
        · obtain ⟨g5, rfl, hg51, hg52⟩ := OP.some_ (by rw [HL.out]; omega)
          go_wp2_with fail
          refine (among_lit (w.heap.size + 1) (2000 + 2 * j + 2) w3.heap.size 2 [-1, 6] w3 rfl rfl CN (by omega) (by decide) (by decide) (I64.lit (by decide))).mono ?_
          rintro e w4 ⟨y, rfl, hy, hc, hg⟩
          have hy64 : I64 y := by simp at hy; unfold I64; omega
          replace XN := XN.mark hg (fun z hz => by cases hz; omega)
          replace RN := RN.mark hg (fun z hz => by cases hz; omega)
          replace HN := HN.trans (grown_below (B := w.heap.size) hg (by omega) HN.size)
          replace ON := ON.mark hg (fun z z' hz hz' => by cases hz; exact fun e => hne z' hz' e.symm)
          replace OP := OP.mark hg (fun z z' hz hz' => by cases hz; have := (OP.bd z' hz').1; omega)
          replace CN := hc
          have hlx := XN.lt
          clear hc hg hy
          have OPn : Own w4 w1.heap.size (.slice (some ⟨g5, 0, none⟩) ps.length c) ps := by rw [HL.out]; exact OP
          have hHS := OPn.1.stored 0 (.int .i64 y)
          have hcell := own_at OP (show 0 < ps.length by rw [HL.out]; exact hz) rfl
          have hfro := OPn.1.frozenAt 0
          have hgN := hHS.2
          have OQ : Own (w4.setCell ⟨g5, 0, none⟩ (.int .i64 y)) w1.heap.size (.slice (some ⟨g5, 0, none⟩) ps.length c) (ps.set 0 y) := by
            refine ⟨?_, fun x hx => ?_⟩
            · rw [List.length_set, List.map_set]
              exact hHS.1
            · rcases List.mem_or_eq_of_mem_set hx with hx | rfl
              · exact OP.2 x hx
              · exact hy64
          rw [HL.out] at OQ
          have HL2 := Lib.hid (show (ps.set 0 y).length = j by rw [List.length_set, HL.out])
          have XQ := XN.mark hgN (fun z hz => by cases hz; exact row_ne OP.1 XN (by decide) g5 rfl)
          have RQ := RN.mark hgN (fun z hz => by cases hz; exact row_ne OP.1 RN (by decide) g5 rfl)
          have ONQ := ON.mark hgN (fun z z' hz hz' => by cases hz; have h2 := hol z' hz'; omega)
          have HQ := HN.trans ((Below.refl w.heap.size w4).setCell (p := ⟨g5, 0, none⟩) (by show w.heap.size ≤ g5; omega) (.int .i64 y))
          clear hHS hgN OP OPn XN RN ON HN CN
          go_upto_region 14 with fail
          obtain ⟨wS, hS⟩ : ∃ v, w4.setCell ⟨g5, 0, none⟩ (.int .i64 y) = v := ⟨_, rfl⟩
          rw [hS] at XQ RQ ONQ OQ HQ ⊢
          clear hS hcell hfro
          have XN := XQ
          have RN := RQ
          have ON := ONQ
          have OP := OQ
          have HN := HQ
          clear XQ RQ ONQ OQ HQ
          have ex0 := XN.cell 0
          have ex1 := XN.cell 1
          have ex2 := XN.cell 2
          have g0 := RN.cell 0
          have g1 := RN.cell 1
          have g2 := RN.cell 2
          have z0 := RN.frozen 0
          have z1 := RN.frozen 1
          have z2 := RN.frozen 2
          have F := fin3 (p := w.heap.size) (a := .int .i64 W) (b := .int .i64 H) (c := .slice A1 xs.length c1) ON (row_ne' ON.1 RN (by decide)) HN (Nat.le_refl _)
          have F9 := fin3 (p := w.heap.size) (a := .int .i64 W) (b := .int .i64 H) (c := .slice A1 xs.length c1) (OP.mono (show w.heap.size ≤ w1.heap.size by omega)) (row_ne' OP.1 RN (by decide)) HN (Nat.le_refl _)
          go_wp2
          exact bodyPost_ret (v := .tuple #[chartV W H (.slice A1 xs.length c1), .slice (some ⟨g5, 0, none⟩) j c]) (by simp [results, Try.results13, go_sem, g0, g1, g2]) rfl ⟨W, H, A1, c1, xs, (some ⟨g5, 0, none⟩), c, (ps.set 0 y), by rw [HL2.out], ⟨hx1, hWs.fit, hHs.fit⟩, (by rw [HL2.out]; omega), F.1, (by rw [HL2.out]; exact F9.1), F.2⟩
        · obtain rfl : j = 0 := by omega
          have ex0 := XN.cell 0
          have ex1 := XN.cell 1
          have ex2 := XN.cell 2
          have g0 := RN.cell 0
          have g1 := RN.cell 1
          have g2 := RN.cell 2
          have z0 := RN.frozen 0
          have z1 := RN.frozen 1
          have z2 := RN.frozen 2
          have F := fin3 (p := w.heap.size) (a := .int .i64 W) (b := .int .i64 H) (c := .slice A1 xs.length c1) ON (row_ne' ON.1 RN (by decide)) HN (Nat.le_refl _)
          have F9 := fin3 (p := w.heap.size) (a := .int .i64 W) (b := .int .i64 H) (c := .slice A1 xs.length c1) (OP.mono (show w.heap.size ≤ w1.heap.size by omega)) (row_ne' OP.1 RN (by decide)) HN (Nat.le_refl _)
          go_wp2
          exact bodyPost_ret (v := .tuple #[chartV W H (.slice A1 xs.length c1), .slice A 0 c]) (by simp [results, Try.results13, go_sem, g0, g1, g2]) rfl ⟨W, H, A1, c1, xs, A, c, ps, by rw [HL.out], ⟨hx1, hWs.fit, hHs.fit⟩, (by rw [HL.out]; omega), F.1, (by rw [HL.out]; exact F9.1), F.2⟩
      · go_upto_region 14 with fail
        have ex0 := XN.cell 0
        have ex1 := XN.cell 1
        have ex2 := XN.cell 2
        have g0 := RN.cell 0
        have g1 := RN.cell 1
        have g2 := RN.cell 2
        have z0 := RN.frozen 0
        have z1 := RN.frozen 1
        have z2 := RN.frozen 2
        have F := fin3 (p := w.heap.size) (a := .int .i64 W) (b := .int .i64 H) (c := .slice A1 xs.length c1) ON (row_ne' ON.1 RN (by decide)) HN (Nat.le_refl _)
        have F9 := fin3 (p := w.heap.size) (a := .int .i64 W) (b := .int .i64 H) (c := .slice A1 xs.length c1) (OP.mono (show w.heap.size ≤ w1.heap.size by omega)) (row_ne' OP.1 RN (by decide)) HN (Nat.le_refl _)
        go_wp2
        exact bodyPost_ret (v := .tuple #[chartV W H (.slice A1 xs.length c1), .slice A j c]) (by simp [results, Try.results13, go_sem, g0, g1, g2]) rfl ⟨W, H, A1, c1, xs, A, c, ps, by rw [HL.out], ⟨hx1, hWs.fit, hHs.fit⟩, (by rw [HL.out]; omega), F.1, (by rw [HL.out]; exact F9.1), F.2⟩
end Go.Proofs.Ytmaiakaeiokikaa
