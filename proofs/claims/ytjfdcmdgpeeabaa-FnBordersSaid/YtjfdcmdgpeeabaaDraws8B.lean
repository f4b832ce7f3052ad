/- DrawAddBorder. Condition: a code of at most 65536 bytes. -/
import Derived.Test.YtjfdcmdgpeeabaaDraws8
namespace Go.Proofs.Ytjfdcmdgpeeabaa
open Go.RowKit
set_option maxRecDepth 100000
set_option maxRecDepth 100000 in
set_option maxHeartbeats 16000000 in
theorem drawAddBorder_any (A : Option Addr) (n c B : Nat) (w : World) (h : RdB w B A n c) (hB : B ≤ w.heap.size) (hn : n ≤ 65536) : Calls Try.prog 5 #[.slice A n c] w (GaveChartList w) := by
  have hb0 := (Below.refl w.heap.size w).alloc (Nat.le_refl _) (.cells #[.int .i64 0, .int .i64 0, .slice none 0 0] 26)
  have R := (Blk.new w #[.int .i64 0, .int .i64 0, .slice none 0 0] 26).alloc (.cells #[.slice A n c, .int .i64 0, .int .u64 0] 48)
  have C : Cur ((w.alloc (.cells #[.int .i64 0, .int .i64 0, .slice none 0 0] 26)).alloc (.cells #[.slice A n c, .int .i64 0, .int .u64 0] 48)) (w.heap.size + 1) 0 := by
    have := cur_new (h.alloc hB (.cells #[.int .i64 0, .int .i64 0, .slice none 0 0] 26)) (by simp; omega) hn
    simpa using this
  have H := hb0.alloc (by simp) (.cells #[.slice A n c, .int .i64 0, .int .u64 0] 48)
  clear h hb0
  go_enter Try.func5, Try.ntmps5
  go_wp2_with fail
  refine (among_lit (w.heap.size + 1) 0 (w.heap.size + 2) 7 [1, 2, 3, 4, 5, 6, 7] ((w.alloc (.cells #[.int .i64 0, .int .i64 0, .slice none 0 0] 26)).alloc (.cells #[.slice A n c, .int .i64 0, .int .u64 0] 48)) (by simp) rfl C (by omega) (by decide) (by decide) (I64.lit (by decide))).mono ?_
  rintro e w2 ⟨y1, rfl, hy1, hc, hg⟩
  have hy1b : 1 ≤ y1 ∧ y1 ≤ 8 := by simp at hy1; omega
  obtain ⟨XW, rfl⟩ := Int.eq_ofNat_of_zero_le (show 0 ≤ y1 by omega)
  have hXW : 1 ≤ XW ∧ XW ≤ 8 := by omega
  replace R := R.mark hg (fun z hz => by cases hz; omega)
  replace H := H.trans (grown_below (B := w.heap.size) hg (by omega) H.size)
  replace C := hc
  clear hc hg hy1 hy1b
  go_wp2_with fail
  refine (among_lit (w.heap.size + 1) (0 + 2) w2.heap.size 5 [1, 2, 3, 4, 6] w2 rfl rfl C (by omega) (by decide) (by decide) (I64.lit (by decide))).mono ?_
  rintro e w3 ⟨y1, rfl, hy1, hc, hg⟩
  have hy1b : 1 ≤ y1 ∧ y1 ≤ 8 := by simp at hy1; omega
  obtain ⟨XH, rfl⟩ := Int.eq_ofNat_of_zero_le (show 0 ≤ y1 by omega)
  have hXH : 1 ≤ XH ∧ XH ≤ 8 := by omega
  replace R := R.mark hg (fun z hz => by cases hz; omega)
  replace H := H.trans (grown_below (B := w.heap.size) hg (by omega) H.size)
  replace C := hc
  clear hc hg hy1 hy1b
  go_wp2_with fail
  refine (plain_any (w.heap.size + 1) (0 + 2 + 2) XW XH _ C (by have := Nat.mul_le_mul hXW.2 hXH.2; omega) (by omega) (by omega)).mono ?_
  rintro e w4 ⟨W7, H7, A7, c7, xs, rfl, ⟨rfl, rfl, hl7⟩, ON, hc, hg⟩
  have HL7 := Lib.hid hl7
  clear hl7
  replace hc := hc.more (show _ ≤ 300 by have := Nat.mul_le_mul hXW.2 hXH.2; omega)
  have hne : ∀ z', (Value.slice A7 xs.length c7).ownBlock = some z' → z' ≠ w.heap.size + 1 := fun z' hz' => by have h1 := (ON.bd z' hz').1; have h2 := C.lt; omega
  replace ON := ON.mono (show w.heap.size ≤ _ from H.size)
  replace R := R.mark hg (fun z hz => by cases hz; omega)
  replace H := H.trans (grown_below (B := w.heap.size) hg (by omega) H.size)
  replace C := hc
  clear hc hg
  have hal := (Below.refl w4.heap.size w4).alloc (Nat.le_refl _) (.cells #[.int .i64 (XW : Int), .int .i64 (XH : Int), .slice A7 xs.length c7] 26)
  have XN := Blk.new w4 #[.int .i64 (XW : Int), .int .i64 (XH : Int), .slice A7 xs.length c7] 26
  have CN := C.all hal
  have RN := R.all hal
  replace ON := ON.all hal
  have HN := H.alloc H.size (.cells #[.int .i64 (XW : Int), .int .i64 (XH : Int), .slice A7 xs.length c7] 26)
  have hql8 := R.lt
  have hqp8 : w4.heap.size ≠ w.heap.size + 1 := by have := C.lt; omega
  have hl7 := HL7.out
  have h64 : XW * XH ≤ 8 * 8 := Nat.mul_le_mul hXW.2 hXH.2
  have hsm : Small (XW : Int) (XH : Int) xs := ⟨by omega, ⟨by omega, by omega⟩, ⟨by omega, by omega⟩⟩
  clear hal C R H hl7 HL7 h64
  go_wp2_with fail
  obtain ⟨ws, hws⟩ : ∃ v, w4.alloc (.cells #[.int .i64 (XW : Int), .int .i64 (XH : Int), .slice A7 xs.length c7] 26) = v := ⟨_, rfl⟩
  rw [hws] at XN CN RN ON HN ⊢
  obtain ⟨q8, hq8⟩ : ∃ q, w4.heap.size = q := ⟨_, rfl⟩
  rw [hq8] at XN hql8 hqp8 ⊢
  clear hws hq8
  refine (one_any (w.heap.size + 1) 300 12 _ CN (by omega) (by omega) (by omega)).mono ?_
  rintro e wu ⟨d, rfl, hc, hg⟩
  replace RN := RN.mark hg (fun z hz => by cases hz; omega)
  replace XN := XN.mark hg (fun z hz => by cases hz; omega)
  replace HN := HN.trans (grown_below (B := w.heap.size) hg (by omega) HN.size)
  replace CN := hc
  replace ON := ON.mark hg (fun z z' hz hz' => by cases hz; exact fun e => hne z' hz' e.symm)
  clear hc hg
  cases d with
  | false =>
    have ex0 := XN.cell 0
    have ex1 := XN.cell 1
    have ex2 := XN.cell 2
    go_wp2
    refine wp_region_noPanic ?_
    refine wp_region_held_drew (S := (fun w' => w'.cell? ⟨q8, 0, none⟩ = some (.int .i64 (XW : Int)) ∧ w'.cell? ⟨q8, 1, none⟩ = some (.int .i64 (XH : Int)) ∧ w'.cell? ⟨q8, 2, none⟩ = some (.slice A7 xs.length c7))) (by kernel_rfl) (by go_keep) (fun hHeld => ?_)
    have CNz := cur_drew CN
    have XNz : Blk wu.drew _ _ _ := XN.all (low_drewN wu 1)
    have RNz : Blk wu.drew _ _ _ := RN.all (low_drewN wu 1)
    have ONz : Own wu.drew _ _ _ := ON.all (low_drewN wu 1)
    have HNz := belowD HN
    obtain ⟨wdT1, hwd⟩ : ∃ v, wu.drew = v := ⟨_, rfl⟩
    rw [hwd] at hHeld CNz XNz RNz ONz HNz ⊢
    clear hwd
    refine wpAnyH_take (i := 0) (v := ?_) rfl (by kernel_rfl) (by kernel_rfl) (by kernel_rfl) (fun _ _ _ h => h) (Or.inl ⟨by rfl, ?_⟩) (by assumption) ?_
    rotate_left
    · intro w hSw; (try dsimp only at hSw); go_simp; (try with_reducible rfl)
    (try simp only [Act.put, List.getElem_toArray, List.getElem_cons_zero, List.setIfInBounds_toArray, List.set_cons_zero, List.set_cons_succ])
    refine wpAnyH_take (i := 1) (v := ?_) rfl (by kernel_rfl) (by kernel_rfl) (by kernel_rfl) (fun _ _ _ h => h) (Or.inl ⟨by rfl, ?_⟩) (by assumption) ?_
    rotate_left
    · intro w hSw; (try dsimp only at hSw); go_simp; (try with_reducible rfl)
    (try simp only [Act.put, List.getElem_toArray, List.getElem_cons_zero, List.getElem_cons_succ, List.setIfInBounds_toArray, List.set_cons_zero, List.set_cons_succ])
    clear hHeld
    refine wpAnyH_ready (rs := [2]) (by kernel_rfl) (by simp) ?_
    refine AllReadyH.cons rfl (fun K hK => ?_) AllReadyH.nil
    go_simp
    refine (pattern8_any (w.heap.size + 1) (300 + 2) _ CNz (by omega)).mono ?_
    rintro e wq1001 ⟨A9, c9, ps, rfl, hp9, own9, hc, hg⟩
    replace own9 := own9.mono (show w.heap.size ≤ _ from HNz.size)
    clear CNz
    have CNz := hc
    replace XNz := XNz.mark hg (fun z hz => by cases hz; omega)
    replace RNz := RNz.mark hg (fun z hz => by cases hz; omega)
    replace ONz := ONz.mark hg (fun z z' hz hz' => by cases hz; exact fun e => hne z' hz' e.symm)
    replace HNz := HNz.trans (grown_below (B := w.heap.size) hg (by omega) HNz.size)
    clear hc hg
    refine hK.out _ _ (by exact ⟨XNz.cell 0, XNz.cell 1, XNz.cell 2⟩) (fun hHeld => ?_)
    clear hK K
    (try simp only [Act.put, List.getElem_toArray, List.getElem_cons_zero, List.getElem_cons_succ, List.setIfInBounds_toArray, List.set_cons_zero, List.set_cons_succ])
    clear hHeld
    refine wpAnyH_ready (rs := [3]) (by kernel_rfl) (by simp) ?_
    refine AllReadyH.cons rfl (fun K hK => ?_) AllReadyH.nil
    have g0 := RNz.cell 0
    have g1 := RNz.cell 1
    have g2 := RNz.cell 2
    have z0 := RNz.frozen 0
    have z1 := RNz.frozen 1
    have z2 := RNz.frozen 2
    have F1 := fin3 (p := w.heap.size) (w0 := w) (B := w.heap.size) (a := .int .i64 (XW : Int)) (b := .int .i64 (XH : Int)) (c := .slice A7 xs.length c7) ONz (row_ne' ONz.1 RNz (by decide)) HNz (Nat.le_refl _)
    have F9 := fin3 (p := w.heap.size) (w0 := w) (B := w.heap.size) (a := .int .i64 (XW : Int)) (b := .int .i64 (XH : Int)) (c := .slice A7 xs.length c7) own9 (row_ne' own9.1 RNz (by decide)) HNz (Nat.le_refl _)
    have RF := RNz.put3r (.int .i64 (XW : Int)) (.int .i64 (XH : Int)) (.slice A7 xs.length c7)
    have XF := XNz.far3r (p := w.heap.size) (a := .int .i64 (XW : Int)) (b := .int .i64 (XH : Int)) (c := .slice A7 xs.length c7) (by omega)
    clear RNz XNz CNz HNz ONz own9
    go_simp
    obtain ⟨wf, hws⟩ : ∃ v, ((wq1001.setCell ⟨w.heap.size, 0, none⟩ (.int .i64 (XW : Int))).setCell ⟨w.heap.size, 1, none⟩ (.int .i64 (XH : Int))).setCell ⟨w.heap.size, 2, none⟩ (.slice A7 xs.length c7) = v := ⟨_, rfl⟩
    rw [hws] at F1 F9 RF XF ⊢
    clear hws g0 g1 g2 z0 z1 z2
    refine hK.out _ _ (by exact ⟨XF.cell 0, XF.cell 1, XF.cell 2⟩) (fun hHeld => ?_)
    clear hK K
    (try simp only [Act.put, List.getElem_toArray, List.getElem_cons_zero, List.getElem_cons_succ, List.setIfInBounds_toArray, List.set_cons_zero, List.set_cons_succ])
    refine wpAnyH_take (i := 4) (v := ?_) rfl (by kernel_rfl) (by kernel_rfl) (by kernel_rfl) (fun _ _ _ h => h) (Or.inl ⟨by rfl, ?_⟩) (by assumption) ?_
    rotate_left
    · intro w hSw; (try dsimp only at hSw); go_simp; (try with_reducible rfl)
    (try simp only [Act.put, List.getElem_toArray, List.getElem_cons_zero, List.getElem_cons_succ, List.setIfInBounds_toArray, List.set_cons_zero, List.set_cons_succ])
    refine wpAnyH_done (by kernel_rfl) ?_ _
    refine NoPanic.normal ?_
    have g0 := RF.cell 0
    have g1 := RF.cell 1
    have g2 := RF.cell 2
    go_wp2
    exact bodyPost_ret (v := .tuple #[chartV (XW : Int) (XH : Int) (.slice A7 xs.length c7), .slice A9 ps.length c9]) (by simp [results, Try.results5, go_sem, g0, g1, g2]) rfl ⟨(XW : Int), (XH : Int), A7, c7, xs, A9, c9, ps, rfl, hsm, (by omega), F1.1, F9.1, F1.2⟩
  | true =>
    clear hsm hne ON
    go_wp2_with fail
    refine (chart_any (w.heap.size + 1) (300 + 2) _ CN (by omega)).mono ?_
    rintro e wc ⟨W5, H5, A5, c5, xs, rfl, hsm, ON, hc, hg⟩
    have hne : ∀ z', (Value.slice A5 xs.length c5).ownBlock = some z' → z' ≠ w.heap.size + 1 := fun z' hz' => by have h1 := (ON.bd z' hz').1; have h2 := CN.lt; omega
    replace ON := ON.mono (show w.heap.size ≤ _ from HN.size)
    replace RN := RN.mark hg (fun z hz => by cases hz; omega)
    replace XN := XN.mark hg (fun z hz => by cases hz; omega)
    replace HN := HN.trans (grown_below (B := w.heap.size) hg (by omega) HN.size)
    replace CN := hc
    clear hc hg
    have g0 := XN.cell 0
    have g1 := XN.cell 1
    have g2 := XN.cell 2
    have z0 := XN.frozen 0
    have z1 := XN.frozen 1
    have z2 := XN.frozen 2
    have F := fin3 (p := q8) (w0 := w) (B := w.heap.size) (a := .int .i64 W5) (b := .int .i64 H5) (c := .slice A5 xs.length c5) ON (row_ne' ON.1 XN (by decide)) HN (by omega)
    skip
    have CNs := (CN.far (a := ⟨q8, 0, none⟩) (by show _ < q8; omega) (.int .i64 W5)).far (a := ⟨q8, 1, none⟩) (by show _ < q8; omega) (.int .i64 H5) |>.far (a := ⟨q8, 2, none⟩) (by show _ < q8; omega) (.slice A5 xs.length c5)
    have RNs := RN.far3r (p := q8) (a := .int .i64 W5) (b := .int .i64 H5) (c := .slice A5 xs.length c5) (by omega)
    have XNs := XN.put3r (.int .i64 W5) (.int .i64 H5) (.slice A5 xs.length c5)
    have ONs := F.1
    have HNs := F.2
    clear F RN XN CN HN ON
    go_wp2_with fail
    obtain ⟨wv, hws⟩ : ∃ v, ((wc.setCell ⟨q8, 0, none⟩ (.int .i64 W5)).setCell ⟨q8, 1, none⟩ (.int .i64 H5)).setCell ⟨q8, 2, none⟩ (.slice A5 xs.length c5) = v := ⟨_, rfl⟩
    rw [hws] at CNs RNs XNs ONs HNs ⊢
    clear hws g0 g1 g2 z0 z1 z2
    have CN := CNs
    have RN := RNs
    have XN := XNs
    have ON := ONs
    have HN := HNs
    clear CNs RNs XNs ONs HNs
    have ex0 := XN.cell 0
    have ex1 := XN.cell 1
    have ex2 := XN.cell 2
    go_wp2
    refine wp_region_noPanic ?_
    refine wp_region_held_drew (S := (fun w' => w'.cell? ⟨q8, 0, none⟩ = some (.int .i64 W5) ∧ w'.cell? ⟨q8, 1, none⟩ = some (.int .i64 H5) ∧ w'.cell? ⟨q8, 2, none⟩ = some (.slice A5 xs.length c5))) (by kernel_rfl) (by go_keep) (fun hHeld => ?_)
    have CNz := cur_drew CN
    have XNz : Blk wv.drew _ _ _ := XN.all (low_drewN wv 1)
    have RNz : Blk wv.drew _ _ _ := RN.all (low_drewN wv 1)
    have ONz : Own wv.drew _ _ _ := ON.all (low_drewN wv 1)
    have HNz := belowD HN
    obtain ⟨wdT2, hwd⟩ : ∃ v, wv.drew = v := ⟨_, rfl⟩
    rw [hwd] at hHeld CNz XNz RNz ONz HNz ⊢
    clear hwd
    refine wpAnyH_take (i := 0) (v := ?_) rfl (by kernel_rfl) (by kernel_rfl) (by kernel_rfl) (fun _ _ _ h => h) (Or.inl ⟨by rfl, ?_⟩) (by assumption) ?_
    rotate_left
    · intro w hSw; (try dsimp only at hSw); go_simp; (try with_reducible rfl)
    (try simp only [Act.put, List.getElem_toArray, List.getElem_cons_zero, List.setIfInBounds_toArray, List.set_cons_zero, List.set_cons_succ])
    refine wpAnyH_take (i := 1) (v := ?_) rfl (by kernel_rfl) (by kernel_rfl) (by kernel_rfl) (fun _ _ _ h => h) (Or.inl ⟨by rfl, ?_⟩) (by assumption) ?_
    rotate_left
    · intro w hSw; (try dsimp only at hSw); go_simp; (try with_reducible rfl)
    (try simp only [Act.put, List.getElem_toArray, List.getElem_cons_zero, List.getElem_cons_succ, List.setIfInBounds_toArray, List.set_cons_zero, List.set_cons_succ])
    clear hHeld
    refine wpAnyH_ready (rs := [2]) (by kernel_rfl) (by simp) ?_
    refine AllReadyH.cons rfl (fun K hK => ?_) AllReadyH.nil
    go_simp
    refine (pattern8_any (w.heap.size + 1) (300 + 2 + 1000) _ CNz (by omega)).mono ?_
    rintro e wq2001 ⟨A9, c9, ps, rfl, hp9, own9, hc, hg⟩
    replace own9 := own9.mono (show w.heap.size ≤ _ from HNz.size)
    clear CNz
    have CNz := hc
    replace XNz := XNz.mark hg (fun z hz => by cases hz; omega)
    replace RNz := RNz.mark hg (fun z hz => by cases hz; omega)
    replace ONz := ONz.mark hg (fun z z' hz hz' => by cases hz; exact fun e => hne z' hz' e.symm)
    replace HNz := HNz.trans (grown_below (B := w.heap.size) hg (by omega) HNz.size)
    clear hc hg
    refine hK.out _ _ (by exact ⟨XNz.cell 0, XNz.cell 1, XNz.cell 2⟩) (fun hHeld => ?_)
    clear hK K
    (try simp only [Act.put, List.getElem_toArray, List.getElem_cons_zero, List.getElem_cons_succ, List.setIfInBounds_toArray, List.set_cons_zero, List.set_cons_succ])
    clear hHeld
    refine wpAnyH_ready (rs := [3]) (by kernel_rfl) (by simp) ?_
    refine AllReadyH.cons rfl (fun K hK => ?_) AllReadyH.nil
    have g0 := RNz.cell 0
    have g1 := RNz.cell 1
    have g2 := RNz.cell 2
    have z0 := RNz.frozen 0
    have z1 := RNz.frozen 1
    have z2 := RNz.frozen 2
    have F1 := fin3 (p := w.heap.size) (w0 := w) (B := w.heap.size) (a := .int .i64 W5) (b := .int .i64 H5) (c := .slice A5 xs.length c5) ONz (row_ne' ONz.1 RNz (by decide)) HNz (Nat.le_refl _)
    have F9 := fin3 (p := w.heap.size) (w0 := w) (B := w.heap.size) (a := .int .i64 W5) (b := .int .i64 H5) (c := .slice A5 xs.length c5) own9 (row_ne' own9.1 RNz (by decide)) HNz (Nat.le_refl _)
    have RF := RNz.put3r (.int .i64 W5) (.int .i64 H5) (.slice A5 xs.length c5)
    have XF := XNz.far3r (p := w.heap.size) (a := .int .i64 W5) (b := .int .i64 H5) (c := .slice A5 xs.length c5) (by omega)
    clear RNz XNz CNz HNz ONz own9
    go_simp
    obtain ⟨wf, hws⟩ : ∃ v, ((wq2001.setCell ⟨w.heap.size, 0, none⟩ (.int .i64 W5)).setCell ⟨w.heap.size, 1, none⟩ (.int .i64 H5)).setCell ⟨w.heap.size, 2, none⟩ (.slice A5 xs.length c5) = v := ⟨_, rfl⟩
    rw [hws] at F1 F9 RF XF ⊢
    clear hws g0 g1 g2 z0 z1 z2
    refine hK.out _ _ (by exact ⟨XF.cell 0, XF.cell 1, XF.cell 2⟩) (fun hHeld => ?_)
    clear hK K
    (try simp only [Act.put, List.getElem_toArray, List.getElem_cons_zero, List.getElem_cons_succ, List.setIfInBounds_toArray, List.set_cons_zero, List.set_cons_succ])
    refine wpAnyH_take (i := 4) (v := ?_) rfl (by kernel_rfl) (by kernel_rfl) (by kernel_rfl) (fun _ _ _ h => h) (Or.inl ⟨by rfl, ?_⟩) (by assumption) ?_
    rotate_left
    · intro w hSw; (try dsimp only at hSw); go_simp; (try with_reducible rfl)
    (try simp only [Act.put, List.getElem_toArray, List.getElem_cons_zero, List.getElem_cons_succ, List.setIfInBounds_toArray, List.set_cons_zero, List.set_cons_succ])
    refine wpAnyH_done (by kernel_rfl) ?_ _
    refine NoPanic.normal ?_
    have g0 := RF.cell 0
    have g1 := RF.cell 1
    have g2 := RF.cell 2
    go_wp2
    exact bodyPost_ret (v := .tuple #[chartV W5 H5 (.slice A5 xs.length c5), .slice A9 ps.length c9]) (by simp [results, Try.results5, go_sem, g0, g1, g2]) rfl ⟨W5, H5, A5, c5, xs, A9, c9, ps, rfl, hsm, (by omega), F1.1, F9.1, F1.2⟩
end Go.Proofs.Ytjfdcmdgpeeabaa
