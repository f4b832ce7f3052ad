/- The draw of a part in a chart. Condition: a code of at most 65536 bytes. -/
import Derived.Test.YtbhdgpkfighjfaaDraws2P
namespace Go.Proofs.Ytbhdgpkfighjfaa
open Go.RowKit

theorem tdiv16 (x : Int) (h0 : 0 ≤ x) (h1 : x ≤ 17) : 0 ≤ x.tdiv 16 ∧ x.tdiv 16 ≤ 1 := by
  rw [Int.tdiv_eq_ediv_of_nonneg h0]
  omega
def GavePartOf (w : World) (e : Ending) (w' : World) : Prop := ∃ (W H : Int) (A : Option Addr) (c : Nat) (xs : List Int) (r q h k : Int), e = .returned (.tuple #[chartV W H (.slice A xs.length c), .int .i64 r, .int .i64 q, .int .i64 h, .int .i64 k]) ∧ Small9 W H xs ∧ I64 r ∧ I64 q ∧ I64 h ∧ I64 k ∧ Own w' w.heap.size (.slice A xs.length c) xs ∧ Below w.heap.size w w'
theorem mostI_one (x : Int) : 1 ≤ mostI 1 x ∧ (mostI 1 x = 1 ∨ mostI 1 x = x) := by
  unfold mostI
  split <;> omega
theorem l1Most_v (a b v : Int) (w : World) (h : mostI a b = v) : Calls Try.prog 21 #[.int .i64 a, .int .i64 b] w fun e w' => e = .returned (.int .i64 v) ∧ w = w' := by
  refine (l1Most_any a b w).mono ?_
  rintro e w' ⟨rfl, hw⟩
  exact ⟨by rw [h], hw⟩
set_option maxRecDepth 100000 in
set_option maxHeartbeats 16000000 in
theorem drawPartOf_any (A : Option Addr) (n c B : Nat) (w : World) (h : RdB w B A n c) (hB : B ≤ w.heap.size) (hn : n ≤ 65536) : Calls Try.prog 5 #[.slice A n c] w (GavePartOf w) := by
  have hb0 := (Below.refl w.heap.size w).alloc (Nat.le_refl _) (.cells #[.int .i64 0, .int .i64 0, .slice none 0 0] 26)
  have r0 := (Blk.new w #[.int .i64 0, .int .i64 0, .slice none 0 0] 26).alloc (.cells #[.slice A n c, .int .i64 0, .int .u64 0] 47)
  have hc0 : Cur ((w.alloc (.cells #[.int .i64 0, .int .i64 0, .slice none 0 0] 26)).alloc (.cells #[.slice A n c, .int .i64 0, .int .u64 0] 47)) (w.heap.size + 1) 0 := by
    have := cur_new (h.alloc hB (.cells #[.int .i64 0, .int .i64 0, .slice none 0 0] 26)) (by simp; omega) hn
    simpa using this
  have hb1 := hb0.alloc (by simp) (.cells #[.slice A n c, .int .i64 0, .int .u64 0] 47)
  clear h hb0
  go_enter Try.func5, Try.ntmps5
  go_wp2_with fail
  refine (chart_any9 (w.heap.size + 1) 0 _ hc0 (by omega)).mono ?_
  rintro e w1 ⟨W, H, A1, c1, xs, rfl, hsm, own, hc1, hg1⟩
  have r1 := r0.mark hg1 (fun z hz => by cases hz; omega)
  have HB1 := hb1.trans (grown_below (B := w.heap.size) hg1 (by omega) (by simp; omega))
  have hne1 := fun z' hz' => row_ne own.1 (show Blk w1 (w.heap.size + 1) 47 _ from hc1.choose_spec.choose_spec.choose_spec.choose_spec.choose_spec.choose_spec.1) (by decide) z' hz'
  replace own := own.mono (show w.heap.size ≤ _ by simp; omega)
  have hp1 := hc1.lt
  clear hc0 hg1 r0 hb1
  have Bx := Blk.new w1 #[.int .i64 W, .int .i64 H, .slice A1 xs.length c1] 26
  have hal := (Below.refl w1.heap.size w1).alloc (Nat.le_refl _) (.cells #[.int .i64 W, .int .i64 H, .slice A1 xs.length c1] 26)
  have C := hc1.all hal
  have Br := r1.all hal
  have O := own.all hal
  have HH := HB1.alloc HB1.size (.cells #[.int .i64 W, .int .i64 H, .slice A1 xs.length c1] 26)
  have hsides := hsm.2
  unfold Side9 at hsides
  obtain ⟨⟨hW0, hW9⟩, hH0, hH9⟩ := hsides
  have hwH : IntKind.i64.wrap (H + 1) = H + 1 := IntWalk.i64_in _ (by omega)
  have hwW : IntKind.i64.wrap (W + 1) = W + 1 := IntWalk.i64_in _ (by omega)
  have ex0 := Bx.cell 0
  have ex1 := Bx.cell 1
  have ex2 := Bx.cell 2
  clear hc1 r1 own HB1 hal
  go_wp2
  obtain ⟨wX, hwX⟩ : ∃ wX, w1.alloc (.cells #[.int .i64 W, .int .i64 H, .slice A1 xs.length c1] 26) = wX := ⟨_, rfl⟩
  rw [hwX] at Bx C Br O HH ex0 ex1 ex2 ⊢
  clear hwX
  refine wp_region_noPanic ?_
  refine wp_region_held_drew (S := (fun w' => w'.cell? ⟨w1.heap.size, 0, none⟩ = some (.int .i64 W) ∧ w'.cell? ⟨w1.heap.size, 1, none⟩ = some (.int .i64 H) ∧ w'.cell? ⟨w1.heap.size, 2, none⟩ = some (.slice A1 xs.length c1))) (by kernel_rfl) (by go_keep) (fun hHeld => ?_)
  have C_0 := cur_drew C
  have Bx_0 : Blk wX.drew _ _ _ := Bx.all (low_drewN wX 1)
  have Br_0 : Blk wX.drew _ _ _ := Br.all (low_drewN wX 1)
  have O_0 : Own wX.drew _ _ _ := O.all (low_drewN wX 1)
  have HH_0 := belowD HH
  obtain ⟨wd0, hwd⟩ : ∃ v, wX.drew = v := ⟨_, rfl⟩
  rw [hwd] at hHeld C_0 Bx_0 Br_0 O_0 HH_0 ⊢
  clear hwd
  refine wpAnyH_take (i := 0) (v := ?_) rfl (by kernel_rfl) (by kernel_rfl) (by kernel_rfl) (fun _ _ _ h => h) (Or.inl ⟨by rfl, ?_⟩) (by assumption) ?_
  rotate_left
  · intro w hSw; (try dsimp only at hSw); go_simp; (try with_reducible rfl)
  (try simp only [Act.put, List.getElem_toArray, List.getElem_cons_zero, List.setIfInBounds_toArray, List.set_cons_zero, List.set_cons_succ])
  refine wpAnyH_take (i := 1) (v := ?_) rfl (by kernel_rfl) (by kernel_rfl) (by kernel_rfl) (fun _ _ _ h => h) (Or.inl ⟨by rfl, ?_⟩) (by assumption) ?_
  rotate_left
  · intro w hSw; (try dsimp only at hSw); go_simp; (try with_reducible rfl)
  (try simp only [Act.put, List.getElem_toArray, List.getElem_cons_zero, List.getElem_cons_succ, List.setIfInBounds_toArray, List.set_cons_zero, List.set_cons_succ])
  refine wpAnyH_take (i := 2) (v := ?_) rfl (by kernel_rfl) (by kernel_rfl) (by kernel_rfl) (fun _ _ _ h => h) (Or.inl ⟨by rfl, ?_⟩) (by assumption) ?_
  rotate_left
  · intro w hSw; (try dsimp only at hSw); go_simp; (try with_reducible rfl)
  (try simp only [Act.put, List.getElem_toArray, List.getElem_cons_zero, List.getElem_cons_succ, List.setIfInBounds_toArray, List.set_cons_zero, List.set_cons_succ])
  refine wpAnyH_take (i := 3) (v := ?_) rfl (by kernel_rfl) (by kernel_rfl) (by kernel_rfl) (fun _ _ _ h => h) (Or.inl ⟨by rfl, ?_⟩) (by assumption) ?_
  rotate_left
  · intro w hSw; (try dsimp only at hSw); go_simp; (try with_reducible rfl)
  (try simp only [Act.put, List.getElem_toArray, List.getElem_cons_zero, List.getElem_cons_succ, List.setIfInBounds_toArray, List.set_cons_zero, List.set_cons_succ])
  refine wpAnyH_take (i := 5) (v := ?_) rfl (by kernel_rfl) (by kernel_rfl) (by kernel_rfl) (fun _ _ _ h => h) (Or.inl ⟨by rfl, ?_⟩) (by assumption) ?_
  rotate_left
  · intro w hSw; (try dsimp only at hSw); go_simp; (try with_reducible rfl)
  (try simp only [Act.put, List.getElem_toArray, List.getElem_cons_zero, List.getElem_cons_succ, List.setIfInBounds_toArray, List.set_cons_zero, List.set_cons_succ])
  refine wpAnyH_take (i := 9) (v := ?_) rfl (by kernel_rfl) (by kernel_rfl) (by kernel_rfl) (fun _ _ _ h => h) (Or.inl ⟨by rfl, ?_⟩) (by assumption) ?_
  rotate_left
  · intro w hSw; (try dsimp only at hSw); go_simp; (try with_reducible rfl)
  (try simp only [Act.put, List.getElem_toArray, List.getElem_cons_zero, List.getElem_cons_succ, List.setIfInBounds_toArray, List.set_cons_zero, List.set_cons_succ])
  refine wpAnyH_take (i := 10) (v := ?_) rfl (by kernel_rfl) (by kernel_rfl) (by kernel_rfl) (fun _ _ _ h => h) (Or.inl ⟨by rfl, ?_⟩) (by assumption) ?_
  rotate_left
  · intro w hSw; (try dsimp only at hSw); go_simp; (try with_reducible rfl)
  (try simp only [Act.put, List.getElem_toArray, List.getElem_cons_zero, List.getElem_cons_succ, List.setIfInBounds_toArray, List.set_cons_zero, List.set_cons_succ])
  refine wpAnyH_take (i := 11) (v := ?_) rfl (by kernel_rfl) (by kernel_rfl) (by kernel_rfl) (fun _ _ _ h => h) (Or.inl ⟨by rfl, ?_⟩) (by assumption) ?_
  rotate_left
  · intro w hSw; (try dsimp only at hSw); go_simp; (try with_reducible rfl)
  (try simp only [Act.put, List.getElem_toArray, List.getElem_cons_zero, List.getElem_cons_succ, List.setIfInBounds_toArray, List.set_cons_zero, List.set_cons_succ])
  refine wpAnyH_take (i := 12) (v := ?_) rfl (by kernel_rfl) (by kernel_rfl) (by kernel_rfl) (fun _ _ _ h => h) (Or.inl ⟨by rfl, ?_⟩) (by assumption) ?_
  rotate_left
  · intro w hSw; (try dsimp only at hSw); go_simp; (try with_reducible rfl)
  (try simp only [Act.put, List.getElem_toArray, List.getElem_cons_zero, List.getElem_cons_succ, List.setIfInBounds_toArray, List.set_cons_zero, List.set_cons_succ])
  refine wpAnyH_take (i := 14) (v := ?_) rfl (by kernel_rfl) (by kernel_rfl) (by kernel_rfl) (fun _ _ _ h => h) (Or.inl ⟨by rfl, ?_⟩) (by assumption) ?_
  rotate_left
  · intro w hSw; (try dsimp only at hSw); go_simp; (try with_reducible rfl)
  (try simp only [Act.put, List.getElem_toArray, List.getElem_cons_zero, List.getElem_cons_succ, List.setIfInBounds_toArray, List.set_cons_zero, List.set_cons_succ])
  clear hHeld
  refine wpAnyH_ready (rs := [4]) (by kernel_rfl) (by simp) ?_
  refine AllReadyH.cons rfl (fun K hK => ?_) AllReadyH.nil
  go_simp
  refine (pick_any (w.heap.size + 1) (0 + 1000) (H + 1) _ C_0 (by omega) (by omega) (by omega)).mono ?_
  rintro e wq1 ⟨x1, rfl, hx1, hc, hg⟩
  have C_1 := hc
  have Bx_1 := Bx_0.mark hg (fun z hz => by cases hz; omega)
  have Br_1 := Br_0.mark hg (fun z hz => by cases hz; omega)
  have O_1 := O_0.mark hg (fun z z' hz hz' => by cases hz; exact fun e => hne1 z' hz' e.symm)
  have HH_1 := HH_0.trans (grown_below (B := w.heap.size) hg (by omega) HH_0.size)
  clear hc hg
  refine hK.out _ _ (by exact ⟨Bx_1.cell 0, Bx_1.cell 1, Bx_1.cell 2⟩) (fun hHeld => ?_)
  clear hK K
  (try simp only [Act.put, List.getElem_toArray, List.getElem_cons_zero, List.getElem_cons_succ, List.setIfInBounds_toArray, List.set_cons_zero, List.set_cons_succ])
  clear hHeld
  refine wpAnyH_ready (rs := [6]) (by kernel_rfl) (by simp) ?_
  refine AllReadyH.cons rfl (fun K hK => ?_) AllReadyH.nil
  go_simp
  refine (pick_any (w.heap.size + 1) ((0 + 1000) + 2) (17) _ C_1 (by omega) (by omega) (by omega)).mono ?_
  rintro e wq2 ⟨x2, rfl, hx2, hc, hg⟩
  have C_2 := hc
  have Bx_2 := Bx_1.mark hg (fun z hz => by cases hz; omega)
  have Br_2 := Br_1.mark hg (fun z hz => by cases hz; omega)
  have O_2 := O_1.mark hg (fun z z' hz hz' => by cases hz; exact fun e => hne1 z' hz' e.symm)
  have HH_2 := HH_1.trans (grown_below (B := w.heap.size) hg (by omega) HH_1.size)
  clear hc hg
  refine hK.out _ _ (by exact ⟨Bx_2.cell 0, Bx_2.cell 1, Bx_2.cell 2⟩) (fun hHeld => ?_)
  clear hK K
  (try simp only [Act.put, List.getElem_toArray, List.getElem_cons_zero, List.getElem_cons_succ, List.setIfInBounds_toArray, List.set_cons_zero, List.set_cons_succ])
  refine wpAnyH_take (i := 7) (v := ?_) rfl (by kernel_rfl) (by kernel_rfl) (by kernel_rfl) (fun _ _ _ h => h) (Or.inl ⟨by rfl, ?_⟩) (by assumption) ?_
  rotate_left
  · intro w hSw; (try dsimp only at hSw); go_simp; (try with_reducible rfl)
  (try simp only [Act.put, List.getElem_toArray, List.getElem_cons_zero, List.getElem_cons_succ, List.setIfInBounds_toArray, List.set_cons_zero, List.set_cons_succ])
  refine wpAnyH_take (i := 8) (v := ?_) rfl (by kernel_rfl) (by kernel_rfl) (by kernel_rfl) (fun _ _ _ h => h) (Or.inl ⟨by rfl, ?_⟩) (by assumption) ?_
  rotate_left
  · intro w hSw; (try dsimp only at hSw); go_simp; (try with_reducible rfl)
  (try simp only [Act.put, List.getElem_toArray, List.getElem_cons_zero, List.getElem_cons_succ, List.setIfInBounds_toArray, List.set_cons_zero, List.set_cons_succ])
  clear hHeld
  refine wpAnyH_ready (rs := [13]) (by kernel_rfl) (by simp) ?_
  refine AllReadyH.cons rfl (fun K hK => ?_) AllReadyH.nil
  go_simp
  refine (pick_any (w.heap.size + 1) (((0 + 1000) + 2) + 2) (W + 1) _ C_2 (by omega) (by omega) (by omega)).mono ?_
  rintro e wq3 ⟨x3, rfl, hx3, hc, hg⟩
  have C_3 := hc
  have Bx_3 := Bx_2.mark hg (fun z hz => by cases hz; omega)
  have Br_3 := Br_2.mark hg (fun z hz => by cases hz; omega)
  have O_3 := O_2.mark hg (fun z z' hz hz' => by cases hz; exact fun e => hne1 z' hz' e.symm)
  have HH_3 := HH_2.trans (grown_below (B := w.heap.size) hg (by omega) HH_2.size)
  clear hc hg
  refine hK.out _ _ (by exact ⟨Bx_3.cell 0, Bx_3.cell 1, Bx_3.cell 2⟩) (fun hHeld => ?_)
  clear hK K
  (try simp only [Act.put, List.getElem_toArray, List.getElem_cons_zero, List.getElem_cons_succ, List.setIfInBounds_toArray, List.set_cons_zero, List.set_cons_succ])
  clear hHeld
  refine wpAnyH_ready (rs := [15]) (by kernel_rfl) (by simp) ?_
  refine AllReadyH.cons rfl (fun K hK => ?_) AllReadyH.nil
  go_simp
  refine (pick_any (w.heap.size + 1) ((((0 + 1000) + 2) + 2) + 2) (17) _ C_3 (by omega) (by omega) (by omega)).mono ?_
  rintro e wq4 ⟨x4, rfl, hx4, hc, hg⟩
  have C_4 := hc
  have Bx_4 := Bx_3.mark hg (fun z hz => by cases hz; omega)
  have Br_4 := Br_3.mark hg (fun z hz => by cases hz; omega)
  have O_4 := O_3.mark hg (fun z z' hz hz' => by cases hz; exact fun e => hne1 z' hz' e.symm)
  have HH_4 := HH_3.trans (grown_below (B := w.heap.size) hg (by omega) HH_3.size)
  clear hc hg
  refine hK.out _ _ (by exact ⟨Bx_4.cell 0, Bx_4.cell 1, Bx_4.cell 2⟩) (fun hHeld => ?_)
  clear hK K
  (try simp only [Act.put, List.getElem_toArray, List.getElem_cons_zero, List.getElem_cons_succ, List.setIfInBounds_toArray, List.set_cons_zero, List.set_cons_succ])
  refine wpAnyH_take (i := 16) (v := ?_) rfl (by kernel_rfl) (by kernel_rfl) (by kernel_rfl) (fun _ _ _ h => h) (Or.inl ⟨by rfl, ?_⟩) (by assumption) ?_
  rotate_left
  · intro w hSw; (try dsimp only at hSw); go_simp; (try with_reducible rfl)
  (try simp only [Act.put, List.getElem_toArray, List.getElem_cons_zero, List.getElem_cons_succ, List.setIfInBounds_toArray, List.set_cons_zero, List.set_cons_succ])
  refine wpAnyH_take (i := 17) (v := ?_) rfl (by kernel_rfl) (by kernel_rfl) (by kernel_rfl) (fun _ _ _ h => h) (Or.inl ⟨by rfl, ?_⟩) (by assumption) ?_
  rotate_left
  · intro w hSw; (try dsimp only at hSw); go_simp; (try with_reducible rfl)
  (try simp only [Act.put, List.getElem_toArray, List.getElem_cons_zero, List.getElem_cons_succ, List.setIfInBounds_toArray, List.set_cons_zero, List.set_cons_succ])
  refine wpAnyH_take (i := 18) (v := ?_) rfl (by kernel_rfl) (by kernel_rfl) (by kernel_rfl) (fun _ _ _ h => h) (Or.inl ⟨by rfl, ?_⟩) (by assumption) ?_
  rotate_left
  · intro w hSw; (try dsimp only at hSw); go_simp; (try with_reducible rfl)
  (try simp only [Act.put, List.getElem_toArray, List.getElem_cons_zero, List.getElem_cons_succ, List.setIfInBounds_toArray, List.set_cons_zero, List.set_cons_succ])
  refine wpAnyH_take (i := 19) (v := ?_) rfl (by kernel_rfl) (by kernel_rfl) (by kernel_rfl) (fun _ _ _ h => h) (Or.inl ⟨by rfl, ?_⟩) (by assumption) ?_
  rotate_left
  · intro w hSw; (try dsimp only at hSw); go_simp; (try with_reducible rfl)
  (try simp only [Act.put, List.getElem_toArray, List.getElem_cons_zero, List.getElem_cons_succ, List.setIfInBounds_toArray, List.set_cons_zero, List.set_cons_succ])
  refine wpAnyH_done (by kernel_rfl) ?_ _
  refine NoPanic.normal ?_
  obtain ⟨row, hrow⟩ : ∃ row, IntKind.i64.wrap (x1 - IntKind.i64.wrap (x2.tdiv 16)) = row := ⟨_, rfl⟩
  have hrb : -10 ≤ row ∧ row ≤ 20 := by
    have h1 := tdiv16 x2 (by omega) (by omega)
    rw [IntWalk.i64_in (x2.tdiv 16) (by omega), IntWalk.i64_in _ (by omega)] at hrow
    omega
  obtain ⟨col, hcol⟩ : ∃ col, IntKind.i64.wrap (x3 - IntKind.i64.wrap (x4.tdiv 16)) = col := ⟨_, rfl⟩
  have hcb : -10 ≤ col ∧ col ≤ 20 := by
    have h1 := tdiv16 x4 (by omega) (by omega)
    rw [IntWalk.i64_in (x4.tdiv 16) (by omega), IntWalk.i64_in _ (by omega)] at hcol
    omega
  rw [hrow, hcol]
  clear hrow hcol hwH hwW ex0 ex1 ex2
  have hwr : IntKind.i64.wrap (H - row) = H - row := IntWalk.i64_in _ (by omega)
  have hwc : IntKind.i64.wrap (W - col) = W - col := IntWalk.i64_in _ (by omega)
  obtain ⟨M1, hM1⟩ : ∃ M1, mostI 1 (H - row) = M1 := ⟨_, rfl⟩
  obtain ⟨M2, hM2⟩ : ∃ M2, mostI 1 (W - col) = M2 := ⟨_, rfl⟩
  have hb1 := mostI_one (H - row)
  have hb2 := mostI_one (W - col)
  rw [hM1] at hb1
  rw [hM2] at hb2
  have KM1 := Lib.hid hM1
  have KM2 := Lib.hid hM2
  clear hM1 hM2
  have ex0 := Bx_4.cell 0
  have ex1 := Bx_4.cell 1
  have ex2 := Bx_4.cell 2
  go_wp2
  clear C Bx Br O HH
  have C := C_4
  have Bx := Bx_4
  have Br := Br_4
  have O := O_4
  have HH := HH_4
  refine wp_region_noPanic ?_
  refine wp_region_held_drew (S := (fun w' => w'.cell? ⟨w1.heap.size, 0, none⟩ = some (.int .i64 W) ∧ w'.cell? ⟨w1.heap.size, 1, none⟩ = some (.int .i64 H) ∧ w'.cell? ⟨w1.heap.size, 2, none⟩ = some (.slice A1 xs.length c1))) (by kernel_rfl) (by go_keep) (fun hHeld => ?_)
  have C_0 := cur_drew C
  have Bx_0 : Blk wq4.drew _ _ _ := Bx.all (low_drewN wq4 1)
  have Br_0 : Blk wq4.drew _ _ _ := Br.all (low_drewN wq4 1)
  have O_0 : Own wq4.drew _ _ _ := O.all (low_drewN wq4 1)
  have HH_0 := belowD HH
  obtain ⟨wd100, hwd⟩ : ∃ v, wq4.drew = v := ⟨_, rfl⟩
  rw [hwd] at hHeld C_0 Bx_0 Br_0 O_0 HH_0 ⊢
  clear hwd
  refine wpAnyH_take (i := 0) (v := ?_) rfl (by kernel_rfl) (by kernel_rfl) (by kernel_rfl) (fun _ _ _ h => h) (Or.inl ⟨by rfl, ?_⟩) (by assumption) ?_
  rotate_left
  · intro w hSw; (try dsimp only at hSw); go_simp; (try with_reducible rfl)
  (try simp only [Act.put, List.getElem_toArray, List.getElem_cons_zero, List.setIfInBounds_toArray, List.set_cons_zero, List.set_cons_succ])
  refine wpAnyH_take (i := 1) (v := ?_) rfl (by kernel_rfl) (by kernel_rfl) (by kernel_rfl) (fun _ _ _ h => h) (Or.inl ⟨by rfl, ?_⟩) (by assumption) ?_
  rotate_left
  · intro w hSw; (try dsimp only at hSw); go_simp; (try with_reducible rfl)
  (try simp only [Act.put, List.getElem_toArray, List.getElem_cons_zero, List.getElem_cons_succ, List.setIfInBounds_toArray, List.set_cons_zero, List.set_cons_succ])
  refine wpAnyH_take (i := 2) (v := ?_) rfl (by kernel_rfl) (by kernel_rfl) (by kernel_rfl) (fun _ _ _ h => h) (Or.inl ⟨by rfl, ?_⟩) (by assumption) ?_
  rotate_left
  · intro w hSw; (try dsimp only at hSw); go_simp; (try with_reducible rfl)
  (try simp only [Act.put, List.getElem_toArray, List.getElem_cons_zero, List.getElem_cons_succ, List.setIfInBounds_toArray, List.set_cons_zero, List.set_cons_succ])
  refine wpAnyH_take (i := 3) (v := ?_) rfl (by kernel_rfl) (by kernel_rfl) (by kernel_rfl) (fun _ _ _ h => h) (Or.inl ⟨by rfl, ?_⟩) (by assumption) ?_
  rotate_left
  · intro w hSw; (try dsimp only at hSw); go_simp; (try with_reducible rfl)
  (try simp only [Act.put, List.getElem_toArray, List.getElem_cons_zero, List.getElem_cons_succ, List.setIfInBounds_toArray, List.set_cons_zero, List.set_cons_succ])
  refine wpAnyH_take (i := 4) (v := ?_) rfl (by kernel_rfl) (by kernel_rfl) (by kernel_rfl) (fun _ _ _ h => h) (Or.inl ⟨by rfl, ?_⟩) (by assumption) ?_
  rotate_left
  · intro w hSw; (try dsimp only at hSw); go_simp; (try with_reducible rfl)
  (try simp only [Act.put, List.getElem_toArray, List.getElem_cons_zero, List.getElem_cons_succ, List.setIfInBounds_toArray, List.set_cons_zero, List.set_cons_succ])
  refine wpAnyH_take (i := 5) (v := ?_) rfl (by kernel_rfl) (by kernel_rfl) (by kernel_rfl) (fun _ _ _ h => h) (Or.inl ⟨by rfl, ?_⟩) (by assumption) ?_
  rotate_left
  · intro w hSw; (try dsimp only at hSw); go_simp; (try with_reducible rfl)
  (try simp only [Act.put, List.getElem_toArray, List.getElem_cons_zero, List.getElem_cons_succ, List.setIfInBounds_toArray, List.set_cons_zero, List.set_cons_succ])
  refine wpAnyH_take (i := 6) (v := ?_) rfl (by kernel_rfl) (by kernel_rfl) (by kernel_rfl) (fun _ _ _ h => h) (Or.inl ⟨by rfl, ?_⟩) (by assumption) ?_
  rotate_left
  · intro w hSw; (try dsimp only at hSw); go_simp; (try with_reducible rfl)
  (try simp only [Act.put, List.getElem_toArray, List.getElem_cons_zero, List.getElem_cons_succ, List.setIfInBounds_toArray, List.set_cons_zero, List.set_cons_succ])
  refine wpAnyH_take (i := 7) (v := ?_) rfl (by kernel_rfl) (by kernel_rfl) (by kernel_rfl) (fun _ _ _ h => h) (Or.inl ⟨by rfl, ?_⟩) (by assumption) ?_
  rotate_left
  · intro w hSw; (try dsimp only at hSw); go_simp; (try with_reducible rfl)
  (try simp only [Act.put, List.getElem_toArray, List.getElem_cons_zero, List.getElem_cons_succ, List.setIfInBounds_toArray, List.set_cons_zero, List.set_cons_succ])
  refine wpAnyH_take (i := 10) (v := ?_) rfl (by kernel_rfl) (by kernel_rfl) (by kernel_rfl) (fun _ _ _ h => h) (Or.inl ⟨by rfl, ?_⟩) (by assumption) ?_
  rotate_left
  · intro w hSw; (try dsimp only at hSw); go_simp; (try with_reducible rfl)
  (try simp only [Act.put, List.getElem_toArray, List.getElem_cons_zero, List.getElem_cons_succ, List.setIfInBounds_toArray, List.set_cons_zero, List.set_cons_succ])
  refine wpAnyH_take (i := 14) (v := ?_) rfl (by kernel_rfl) (by kernel_rfl) (by kernel_rfl) (fun _ _ _ h => h) (Or.inl ⟨by rfl, ?_⟩) (by assumption) ?_
  rotate_left
  · intro w hSw; (try dsimp only at hSw); go_simp; (try with_reducible rfl)
  (try simp only [Act.put, List.getElem_toArray, List.getElem_cons_zero, List.getElem_cons_succ, List.setIfInBounds_toArray, List.set_cons_zero, List.set_cons_succ])
  refine wpAnyH_take (i := 15) (v := ?_) rfl (by kernel_rfl) (by kernel_rfl) (by kernel_rfl) (fun _ _ _ h => h) (Or.inl ⟨by rfl, ?_⟩) (by assumption) ?_
  rotate_left
  · intro w hSw; (try dsimp only at hSw); go_simp; (try with_reducible rfl)
  (try simp only [Act.put, List.getElem_toArray, List.getElem_cons_zero, List.getElem_cons_succ, List.setIfInBounds_toArray, List.set_cons_zero, List.set_cons_succ])
  refine wpAnyH_take (i := 16) (v := ?_) rfl (by kernel_rfl) (by kernel_rfl) (by kernel_rfl) (fun _ _ _ h => h) (Or.inl ⟨by rfl, ?_⟩) (by assumption) ?_
  rotate_left
  · intro w hSw; (try dsimp only at hSw); go_simp; (try with_reducible rfl)
  (try simp only [Act.put, List.getElem_toArray, List.getElem_cons_zero, List.getElem_cons_succ, List.setIfInBounds_toArray, List.set_cons_zero, List.set_cons_succ])
  refine wpAnyH_take (i := 17) (v := ?_) rfl (by kernel_rfl) (by kernel_rfl) (by kernel_rfl) (fun _ _ _ h => h) (Or.inl ⟨by rfl, ?_⟩) (by assumption) ?_
  rotate_left
  · intro w hSw; (try dsimp only at hSw); go_simp; (try with_reducible rfl)
  (try simp only [Act.put, List.getElem_toArray, List.getElem_cons_zero, List.getElem_cons_succ, List.setIfInBounds_toArray, List.set_cons_zero, List.set_cons_succ])
  refine wpAnyH_take (i := 18) (v := ?_) rfl (by kernel_rfl) (by kernel_rfl) (by kernel_rfl) (fun _ _ _ h => h) (Or.inl ⟨by rfl, ?_⟩) (by assumption) ?_
  rotate_left
  · intro w hSw; (try dsimp only at hSw); go_simp; (try with_reducible rfl)
  (try simp only [Act.put, List.getElem_toArray, List.getElem_cons_zero, List.getElem_cons_succ, List.setIfInBounds_toArray, List.set_cons_zero, List.set_cons_succ])
  refine wpAnyH_take (i := 21) (v := ?_) rfl (by kernel_rfl) (by kernel_rfl) (by kernel_rfl) (fun _ _ _ h => h) (Or.inl ⟨by rfl, ?_⟩) (by assumption) ?_
  rotate_left
  · intro w hSw; (try dsimp only at hSw); go_simp; (try with_reducible rfl)
  (try simp only [Act.put, List.getElem_toArray, List.getElem_cons_zero, List.getElem_cons_succ, List.setIfInBounds_toArray, List.set_cons_zero, List.set_cons_succ])
  clear hHeld
  refine wpAnyH_ready (rs := [8, 11, 22]) (by kernel_rfl) (by simp) ?_
  refine AllReadyH.cons rfl (fun K hK => ?_) ?_
  · skip
    go_simp
    refine (l1Most_v 1 (H - row) M1 _ KM1.out).mono ?_
    rintro e wq101 ⟨rfl, rfl⟩
    refine hK.out _ _ (by exact ⟨Bx_0.cell 0, Bx_0.cell 1, Bx_0.cell 2⟩) (fun hHeld => ?_)
    clear hK K
    (try simp only [Act.put, List.getElem_toArray, List.getElem_cons_zero, List.getElem_cons_succ, List.setIfInBounds_toArray, List.set_cons_zero, List.set_cons_succ])
    clear hHeld
    refine wpAnyH_ready (rs := [9, 11, 22]) (by kernel_rfl) (by simp) ?_
    refine AllReadyH.cons rfl (fun K hK => ?_) ?_
    · skip
      go_simp
      refine (pick_any (w.heap.size + 1) (((((0 + 1000) + 2) + 2) + 2) + 2) (M1) _ C_0 (by omega) (by omega) (by omega)).mono ?_
      rintro e wq102 ⟨x102, rfl, hx102, hc, hg⟩
      have C_102 := hc
      have Bx_102 := Bx_0.mark hg (fun z hz => by cases hz; omega)
      have Br_102 := Br_0.mark hg (fun z hz => by cases hz; omega)
      have O_102 := O_0.mark hg (fun z z' hz hz' => by cases hz; exact fun e => hne1 z' hz' e.symm)
      have HH_102 := HH_0.trans (grown_below (B := w.heap.size) hg (by omega) HH_0.size)
      clear hc hg
      refine hK.out _ _ (by exact ⟨Bx_102.cell 0, Bx_102.cell 1, Bx_102.cell 2⟩) (fun hHeld => ?_)
      clear hK K
      (try simp only [Act.put, List.getElem_toArray, List.getElem_cons_zero, List.getElem_cons_succ, List.setIfInBounds_toArray, List.set_cons_zero, List.set_cons_succ])
      clear hHeld
      refine wpAnyH_ready (rs := [11, 22]) (by kernel_rfl) (by simp) ?_
      refine AllReadyH.cons rfl (fun K hK => ?_) ?_
      · skip
        go_simp
        have hal103 := (Below.refl (wq102).heap.size (wq102)).alloc (Nat.le_refl _) (.cells #[.int .i64 1, .int .i64 1, .int .i64 1, .int .i64 2, .int .i64 0] 3)
        have C_103 := C_102.all hal103
        have Bx_103 := Bx_102.all hal103
        have Br_103 := Br_102.all hal103
        have O_103 := O_102.all hal103
        have HH_103 := HH_102.alloc HH_102.size (.cells #[.int .i64 1, .int .i64 1, .int .i64 1, .int .i64 2, .int .i64 0] 3)
        have Lit11_103 : Blk _ (wq102.heap.size) _ _ := Blk.new (wq102) #[.int .i64 1, .int .i64 1, .int .i64 1, .int .i64 2, .int .i64 0] 3
        obtain ⟨q103, hq103⟩ : ∃ q, wq102.heap.size = q := ⟨_, rfl⟩
        rw [hq103] at Lit11_103 ⊢
        obtain ⟨wq103, hw103⟩ : ∃ v, (wq102).alloc (.cells #[.int .i64 1, .int .i64 1, .int .i64 1, .int .i64 2, .int .i64 0] 3) = v := ⟨_, rfl⟩
        rw [hw103] at C_103 Bx_103 Br_103 O_103 HH_103 Lit11_103 ⊢
        have hqp103 : q103 ≠ (w.heap.size + 1) := by have := C_102.lt; omega
        clear hal103 hw103 hq103
        refine hK.out _ _ (by exact ⟨Bx_103.cell 0, Bx_103.cell 1, Bx_103.cell 2⟩) (fun hHeld => ?_)
        clear hK K
        (try simp only [Act.put, List.getElem_toArray, List.getElem_cons_zero, List.getElem_cons_succ, List.setIfInBounds_toArray, List.set_cons_zero, List.set_cons_succ])
        clear hHeld
        refine wpAnyH_ready (rs := [12, 22]) (by kernel_rfl) (by simp) ?_
        refine AllReadyH.cons rfl (fun K hK => ?_) ?_
        · skip
          go_simp
          refine (among_any (w.heap.size + 1) ((((((0 + 1000) + 2) + 2) + 2) + 2) + 2) q103 0 5 5 _ [1, 1, 1, 2, 0] _ C_103 (by omega) (lit_rd2 (xs := [1, 1, 1, 2, 0]) Lit11_103 (I64.lit (by decide)) (by decide)) (by omega) (by omega) (by omega)).mono ?_
          rintro e wq104 ⟨x104, rfl, _, hc, hg⟩
          have C_104 := hc
          have Bx_104 := Bx_103.mark hg (fun z hz => by cases hz; omega)
          have Br_104 := Br_103.mark hg (fun z hz => by cases hz; omega)
          have O_104 := O_103.mark hg (fun z z' hz hz' => by cases hz; exact fun e => hne1 z' hz' e.symm)
          have HH_104 := HH_103.trans (grown_below (B := w.heap.size) hg (by omega) HH_103.size)
          have Lit11_104 := Lit11_103.mark hg (fun z hz => by cases hz; omega)
          clear hc hg
          refine hK.out _ _ (by exact ⟨Bx_104.cell 0, Bx_104.cell 1, Bx_104.cell 2⟩) (fun hHeld => ?_)
          clear hK K
          (try simp only [Act.put, List.getElem_toArray, List.getElem_cons_zero, List.getElem_cons_succ, List.setIfInBounds_toArray, List.set_cons_zero, List.set_cons_succ])
          refine wpAnyH_take (i := 13) (v := ?_) rfl (by kernel_rfl) (by kernel_rfl) (by kernel_rfl) (fun _ _ _ h => h) (Or.inl ⟨by rfl, ?_⟩) (by assumption) ?_
          rotate_left
          · intro w hSw; (try dsimp only at hSw); go_simp; (try with_reducible rfl)
          (try simp only [Act.put, List.getElem_toArray, List.getElem_cons_zero, List.getElem_cons_succ, List.setIfInBounds_toArray, List.set_cons_zero, List.set_cons_succ])
          clear hHeld
          refine wpAnyH_ready (rs := [19, 22]) (by kernel_rfl) (by simp) ?_
          refine AllReadyH.cons rfl (fun K hK => ?_) ?_
          · skip
            go_simp
            refine (l1Most_v 1 (W - col) M2 _ KM2.out).mono ?_
            rintro e wq105 ⟨rfl, rfl⟩
            refine hK.out _ _ (by exact ⟨Bx_104.cell 0, Bx_104.cell 1, Bx_104.cell 2⟩) (fun hHeld => ?_)
            clear hK K
            (try simp only [Act.put, List.getElem_toArray, List.getElem_cons_zero, List.getElem_cons_succ, List.setIfInBounds_toArray, List.set_cons_zero, List.set_cons_succ])
            clear hHeld
            refine wpAnyH_ready (rs := [20, 22]) (by kernel_rfl) (by simp) ?_
            refine AllReadyH.cons rfl (fun K hK => ?_) ?_
            · skip
              go_simp
              refine (pick_any (w.heap.size + 1) (((((((0 + 1000) + 2) + 2) + 2) + 2) + 2) + 2) (M2) _ C_104 (by omega) (by omega) (by omega)).mono ?_
              rintro e wq106 ⟨x106, rfl, hx106, hc, hg⟩
              have C_106 := hc
              have Bx_106 := Bx_104.mark hg (fun z hz => by cases hz; omega)
              have Br_106 := Br_104.mark hg (fun z hz => by cases hz; omega)
              have O_106 := O_104.mark hg (fun z z' hz hz' => by cases hz; exact fun e => hne1 z' hz' e.symm)
              have HH_106 := HH_104.trans (grown_below (B := w.heap.size) hg (by omega) HH_104.size)
              have Lit11_106 := Lit11_104.mark hg (fun z hz => by cases hz; omega)
              clear hc hg
              refine hK.out _ _ (by exact ⟨Bx_106.cell 0, Bx_106.cell 1, Bx_106.cell 2⟩) (fun hHeld => ?_)
              clear hK K
              (try simp only [Act.put, List.getElem_toArray, List.getElem_cons_zero, List.getElem_cons_succ, List.setIfInBounds_toArray, List.set_cons_zero, List.set_cons_succ])
              clear hHeld
              refine wpAnyH_ready (rs := [22]) (by kernel_rfl) (by simp) ?_
              refine AllReadyH.cons rfl (fun K hK => ?_) AllReadyH.nil
              go_simp
              have hal107 := (Below.refl (wq106).heap.size (wq106)).alloc (Nat.le_refl _) (.cells #[.int .i64 1, .int .i64 1, .int .i64 1, .int .i64 2, .int .i64 0] 3)
              have C_107 := C_106.all hal107
              have Bx_107 := Bx_106.all hal107
              have Br_107 := Br_106.all hal107
              have O_107 := O_106.all hal107
              have HH_107 := HH_106.alloc HH_106.size (.cells #[.int .i64 1, .int .i64 1, .int .i64 1, .int .i64 2, .int .i64 0] 3)
              have Lit11_107 := Lit11_106.all hal107
              have Lit22_107 : Blk _ (wq106.heap.size) _ _ := Blk.new (wq106) #[.int .i64 1, .int .i64 1, .int .i64 1, .int .i64 2, .int .i64 0] 3
              obtain ⟨q107, hq107⟩ : ∃ q, wq106.heap.size = q := ⟨_, rfl⟩
              rw [hq107] at Lit22_107 ⊢
              obtain ⟨wq107, hw107⟩ : ∃ v, (wq106).alloc (.cells #[.int .i64 1, .int .i64 1, .int .i64 1, .int .i64 2, .int .i64 0] 3) = v := ⟨_, rfl⟩
              rw [hw107] at C_107 Bx_107 Br_107 O_107 HH_107 Lit11_107 Lit22_107 ⊢
              have hqp107 : q107 ≠ (w.heap.size + 1) := by have := C_106.lt; omega
              clear hal107 hw107 hq107
              refine hK.out _ _ (by exact ⟨Bx_107.cell 0, Bx_107.cell 1, Bx_107.cell 2⟩) (fun hHeld => ?_)
              clear hK K
              (try simp only [Act.put, List.getElem_toArray, List.getElem_cons_zero, List.getElem_cons_succ, List.setIfInBounds_toArray, List.set_cons_zero, List.set_cons_succ])
              clear hHeld
              refine wpAnyH_ready (rs := [23]) (by kernel_rfl) (by simp) ?_
              refine AllReadyH.cons rfl (fun K hK => ?_) AllReadyH.nil
              go_simp
              refine (among_any (w.heap.size + 1) ((((((((0 + 1000) + 2) + 2) + 2) + 2) + 2) + 2) + 2) q107 0 5 5 _ [1, 1, 1, 2, 0] _ C_107 (by omega) (lit_rd2 (xs := [1, 1, 1, 2, 0]) Lit22_107 (I64.lit (by decide)) (by decide)) (by omega) (by omega) (by omega)).mono ?_
              rintro e wq108 ⟨x108, rfl, _, hc, hg⟩
              have C_108 := hc
              have Bx_108 := Bx_107.mark hg (fun z hz => by cases hz; omega)
              have Br_108 := Br_107.mark hg (fun z hz => by cases hz; omega)
              have O_108 := O_107.mark hg (fun z z' hz hz' => by cases hz; exact fun e => hne1 z' hz' e.symm)
              have HH_108 := HH_107.trans (grown_below (B := w.heap.size) hg (by omega) HH_107.size)
              have Lit11_108 := Lit11_107.mark hg (fun z hz => by cases hz; omega)
              have Lit22_108 := Lit22_107.mark hg (fun z hz => by cases hz; omega)
              clear hc hg
              refine hK.out _ _ (by exact ⟨Bx_108.cell 0, Bx_108.cell 1, Bx_108.cell 2⟩) (fun hHeld => ?_)
              clear hK K
              (try simp only [Act.put, List.getElem_toArray, List.getElem_cons_zero, List.getElem_cons_succ, List.setIfInBounds_toArray, List.set_cons_zero, List.set_cons_succ])
              refine wpAnyH_take (i := 24) (v := ?_) rfl (by kernel_rfl) (by kernel_rfl) (by kernel_rfl) (fun _ _ _ h => h) (Or.inl ⟨by rfl, ?_⟩) (by assumption) ?_
              rotate_left
              · intro w hSw; (try dsimp only at hSw); go_simp; (try with_reducible rfl)
              (try simp only [Act.put, List.getElem_toArray, List.getElem_cons_zero, List.getElem_cons_succ, List.setIfInBounds_toArray, List.set_cons_zero, List.set_cons_succ])
              clear hHeld
              refine wpAnyH_ready (rs := [25]) (by kernel_rfl) (by simp) ?_
              refine AllReadyH.cons rfl (fun K hK => ?_) AllReadyH.nil
              have g0_109 := Br_108.cell 0
              have g1_109 := Br_108.cell 1
              have g2_109 := Br_108.cell 2
              have z0_109 := Br_108.frozen 0
              have z1_109 := Br_108.frozen 1
              have z2_109 := Br_108.frozen 2
              have F_109 := fin3 (p := w.heap.size) (a := .int .i64 W) (b := .int .i64 H) (c := .slice A1 xs.length c1) O_108 (row_ne' O_108.1 Br_108 (by decide)) HH_108 (Nat.le_refl _)
              have Bx_109 := Bx_108.far3' (p := w.heap.size) (a := .int .i64 W) (b := .int .i64 H) (c := .slice A1 xs.length c1) (by omega)
              have Br_109 := Br_108.put3' (.int .i64 W) (.int .i64 H) (.slice A1 xs.length c1)
              go_simp
              refine hK.out _ _ (by exact ⟨Bx_109.cell 0, Bx_109.cell 1, Bx_109.cell 2⟩) (fun hHeld => ?_)
              clear hK K
              (try simp only [Act.put, List.getElem_toArray, List.getElem_cons_zero, List.getElem_cons_succ, List.setIfInBounds_toArray, List.set_cons_zero, List.set_cons_succ])
              refine wpAnyH_take (i := 26) (v := ?_) rfl (by kernel_rfl) (by kernel_rfl) (by kernel_rfl) (fun _ _ _ h => h) (Or.inl ⟨by rfl, ?_⟩) (by assumption) ?_
              rotate_left
              · intro w hSw; (try dsimp only at hSw); go_simp; (try with_reducible rfl)
              (try simp only [Act.put, List.getElem_toArray, List.getElem_cons_zero, List.getElem_cons_succ, List.setIfInBounds_toArray, List.set_cons_zero, List.set_cons_succ])
              refine wpAnyH_take (i := 27) (v := ?_) rfl (by kernel_rfl) (by kernel_rfl) (by kernel_rfl) (fun _ _ _ h => h) (Or.inl ⟨by rfl, ?_⟩) (by assumption) ?_
              rotate_left
              · intro w hSw; (try dsimp only at hSw); go_simp; (try with_reducible rfl)
              (try simp only [Act.put, List.getElem_toArray, List.getElem_cons_zero, List.getElem_cons_succ, List.setIfInBounds_toArray, List.set_cons_zero, List.set_cons_succ])
              refine wpAnyH_take (i := 28) (v := ?_) rfl (by kernel_rfl) (by kernel_rfl) (by kernel_rfl) (fun _ _ _ h => h) (Or.inl ⟨by rfl, ?_⟩) (by assumption) ?_
              rotate_left
              · intro w hSw; (try dsimp only at hSw); go_simp; (try with_reducible rfl)
              (try simp only [Act.put, List.getElem_toArray, List.getElem_cons_zero, List.getElem_cons_succ, List.setIfInBounds_toArray, List.set_cons_zero, List.set_cons_succ])
              refine wpAnyH_take (i := 29) (v := ?_) rfl (by kernel_rfl) (by kernel_rfl) (by kernel_rfl) (fun _ _ _ h => h) (Or.inl ⟨by rfl, ?_⟩) (by assumption) ?_
              rotate_left
              · intro w hSw; (try dsimp only at hSw); go_simp; (try with_reducible rfl)
              (try simp only [Act.put, List.getElem_toArray, List.getElem_cons_zero, List.getElem_cons_succ, List.setIfInBounds_toArray, List.set_cons_zero, List.set_cons_succ])
              refine wpAnyH_done (by kernel_rfl) ?_ _
              refine NoPanic.normal ?_
              have g0 := Br_109.cell 0
              have g1 := Br_109.cell 1
              have g2 := Br_109.cell 2
              have F := F_109
              go_wp2
              exact bodyPost_ret (v := .tuple #[chartV W H (.slice A1 xs.length c1), .int .i64 row, .int .i64 col, .int .i64 (IntKind.i64.wrap (x102 + x104)), .int .i64 (IntKind.i64.wrap (x106 + x108))]) (by simp [results, Try.results5, go_sem, g0, g1, g2]) rfl ⟨W, H, A1, c1, xs, _, _, _, _, rfl, hsm, ⟨by omega, by omega⟩, ⟨by omega, by omega⟩, wrap_i64 _, wrap_i64 _, F.1, F.2⟩
            refine AllReadyH.cons rfl (fun K hK => ?_) AllReadyH.nil
            go_simp
            have hal110 := (Below.refl (wq104).heap.size (wq104)).alloc (Nat.le_refl _) (.cells #[.int .i64 1, .int .i64 1, .int .i64 1, .int .i64 2, .int .i64 0] 3)
            have C_110 := C_104.all hal110
            have Bx_110 := Bx_104.all hal110
            have Br_110 := Br_104.all hal110
            have O_110 := O_104.all hal110
            have HH_110 := HH_104.alloc HH_104.size (.cells #[.int .i64 1, .int .i64 1, .int .i64 1, .int .i64 2, .int .i64 0] 3)
            have Lit11_110 := Lit11_104.all hal110
            have Lit22_110 : Blk _ (wq104.heap.size) _ _ := Blk.new (wq104) #[.int .i64 1, .int .i64 1, .int .i64 1, .int .i64 2, .int .i64 0] 3
            obtain ⟨q110, hq110⟩ : ∃ q, wq104.heap.size = q := ⟨_, rfl⟩
            rw [hq110] at Lit22_110 ⊢
            obtain ⟨wq110, hw110⟩ : ∃ v, (wq104).alloc (.cells #[.int .i64 1, .int .i64 1, .int .i64 1, .int .i64 2, .int .i64 0] 3) = v := ⟨_, rfl⟩
            rw [hw110] at C_110 Bx_110 Br_110 O_110 HH_110 Lit11_110 Lit22_110 ⊢
            have hqp110 : q110 ≠ (w.heap.size + 1) := by have := C_104.lt; omega
            clear hal110 hw110 hq110
            refine hK.out _ _ (by exact ⟨Bx_110.cell 0, Bx_110.cell 1, Bx_110.cell 2⟩) (fun hHeld => ?_)
            clear hK K
            (try simp only [Act.put, List.getElem_toArray, List.getElem_cons_zero, List.getElem_cons_succ, List.setIfInBounds_toArray, List.set_cons_zero, List.set_cons_succ])
            clear hHeld
            refine wpAnyH_ready (rs := [20]) (by kernel_rfl) (by simp) ?_
            refine AllReadyH.cons rfl (fun K hK => ?_) AllReadyH.nil
            go_simp
            refine (pick_any (w.heap.size + 1) (((((((0 + 1000) + 2) + 2) + 2) + 2) + 2) + 2) (M2) _ C_110 (by omega) (by omega) (by omega)).mono ?_
            rintro e wq111 ⟨x111, rfl, hx111, hc, hg⟩
            have C_111 := hc
            have Bx_111 := Bx_110.mark hg (fun z hz => by cases hz; omega)
            have Br_111 := Br_110.mark hg (fun z hz => by cases hz; omega)
            have O_111 := O_110.mark hg (fun z z' hz hz' => by cases hz; exact fun e => hne1 z' hz' e.symm)
            have HH_111 := HH_110.trans (grown_below (B := w.heap.size) hg (by omega) HH_110.size)
            have Lit11_111 := Lit11_110.mark hg (fun z hz => by cases hz; omega)
            have Lit22_111 := Lit22_110.mark hg (fun z hz => by cases hz; omega)
            clear hc hg
            refine hK.out _ _ (by exact ⟨Bx_111.cell 0, Bx_111.cell 1, Bx_111.cell 2⟩) (fun hHeld => ?_)
            clear hK K
            (try simp only [Act.put, List.getElem_toArray, List.getElem_cons_zero, List.getElem_cons_succ, List.setIfInBounds_toArray, List.set_cons_zero, List.set_cons_succ])
            clear hHeld
            refine wpAnyH_ready (rs := [23]) (by kernel_rfl) (by simp) ?_
            refine AllReadyH.cons rfl (fun K hK => ?_) AllReadyH.nil
            go_simp
            refine (among_any (w.heap.size + 1) ((((((((0 + 1000) + 2) + 2) + 2) + 2) + 2) + 2) + 2) q110 0 5 5 _ [1, 1, 1, 2, 0] _ C_111 (by omega) (lit_rd2 (xs := [1, 1, 1, 2, 0]) Lit22_111 (I64.lit (by decide)) (by decide)) (by omega) (by omega) (by omega)).mono ?_
            rintro e wq112 ⟨x112, rfl, _, hc, hg⟩
            have C_112 := hc
            have Bx_112 := Bx_111.mark hg (fun z hz => by cases hz; omega)
            have Br_112 := Br_111.mark hg (fun z hz => by cases hz; omega)
            have O_112 := O_111.mark hg (fun z z' hz hz' => by cases hz; exact fun e => hne1 z' hz' e.symm)
            have HH_112 := HH_111.trans (grown_below (B := w.heap.size) hg (by omega) HH_111.size)
            have Lit11_112 := Lit11_111.mark hg (fun z hz => by cases hz; omega)
            have Lit22_112 := Lit22_111.mark hg (fun z hz => by cases hz; omega)
            clear hc hg
            refine hK.out _ _ (by exact ⟨Bx_112.cell 0, Bx_112.cell 1, Bx_112.cell 2⟩) (fun hHeld => ?_)
            clear hK K
            (try simp only [Act.put, List.getElem_toArray, List.getElem_cons_zero, List.getElem_cons_succ, List.setIfInBounds_toArray, List.set_cons_zero, List.set_cons_succ])
            refine wpAnyH_take (i := 24) (v := ?_) rfl (by kernel_rfl) (by kernel_rfl) (by kernel_rfl) (fun _ _ _ h => h) (Or.inl ⟨by rfl, ?_⟩) (by assumption) ?_
            rotate_left
            · intro w hSw; (try dsimp only at hSw); go_simp; (try with_reducible rfl)
            (try simp only [Act.put, List.getElem_toArray, List.getElem_cons_zero, List.getElem_cons_succ, List.setIfInBounds_toArray, List.set_cons_zero, List.set_cons_succ])
            clear hHeld
            refine wpAnyH_ready (rs := [25]) (by kernel_rfl) (by simp) ?_
            refine AllReadyH.cons rfl (fun K hK => ?_) AllReadyH.nil
            have g0_113 := Br_112.cell 0
            have g1_113 := Br_112.cell 1
            have g2_113 := Br_112.cell 2
            have z0_113 := Br_112.frozen 0
            have z1_113 := Br_112.frozen 1
            have z2_113 := Br_112.frozen 2
            have F_113 := fin3 (p := w.heap.size) (a := .int .i64 W) (b := .int .i64 H) (c := .slice A1 xs.length c1) O_112 (row_ne' O_112.1 Br_112 (by decide)) HH_112 (Nat.le_refl _)
            have Bx_113 := Bx_112.far3' (p := w.heap.size) (a := .int .i64 W) (b := .int .i64 H) (c := .slice A1 xs.length c1) (by omega)
            have Br_113 := Br_112.put3' (.int .i64 W) (.int .i64 H) (.slice A1 xs.length c1)
            go_simp
            refine hK.out _ _ (by exact ⟨Bx_113.cell 0, Bx_113.cell 1, Bx_113.cell 2⟩) (fun hHeld => ?_)
            clear hK K
            (try simp only [Act.put, List.getElem_toArray, List.getElem_cons_zero, List.getElem_cons_succ, List.setIfInBounds_toArray, List.set_cons_zero, List.set_cons_succ])
            refine wpAnyH_take (i := 26) (v := ?_) rfl (by kernel_rfl) (by kernel_rfl) (by kernel_rfl) (fun _ _ _ h => h) (Or.inl ⟨by rfl, ?_⟩) (by assumption) ?_
            rotate_left
            · intro w hSw; (try dsimp only at hSw); go_simp; (try with_reducible rfl)
            (try simp only [Act.put, List.getElem_toArray, List.getElem_cons_zero, List.getElem_cons_succ, List.setIfInBounds_toArray, List.set_cons_zero, List.set_cons_succ])
            refine wpAnyH_take (i := 27) (v := ?_) rfl (by kernel_rfl) (by kernel_rfl) (by kernel_rfl) (fun _ _ _ h => h) (Or.inl ⟨by rfl, ?_⟩) (by assumption) ?_
            rotate_left
            · intro w hSw; (try dsimp only at hSw); go_simp; (try with_reducible rfl)
            (try simp only [Act.put, List.getElem_toArray, List.getElem_cons_zero, List.getElem_cons_succ, List.setIfInBounds_toArray, List.set_cons_zero, List.set_cons_succ])
            refine wpAnyH_take (i := 28) (v := ?_) rfl (by kernel_rfl) (by kernel_rfl) (by kernel_rfl) (fun _ _ _ h => h) (Or.inl ⟨by rfl, ?_⟩) (by assumption) ?_
            rotate_left
            · intro w hSw; (try dsimp only at hSw); go_simp; (try with_reducible rfl)
            (try simp only [Act.put, List.getElem_toArray, List.getElem_cons_zero, List.getElem_cons_succ, List.setIfInBounds_toArray, List.set_cons_zero, List.set_cons_succ])
            refine wpAnyH_take (i := 29) (v := ?_) rfl (by kernel_rfl) (by kernel_rfl) (by kernel_rfl) (fun _ _ _ h => h) (Or.inl ⟨by rfl, ?_⟩) (by assumption) ?_
            rotate_left
            · intro w hSw; (try dsimp only at hSw); go_simp; (try with_reducible rfl)
            (try simp only [Act.put, List.getElem_toArray, List.getElem_cons_zero, List.getElem_cons_succ, List.setIfInBounds_toArray, List.set_cons_zero, List.set_cons_succ])
            refine wpAnyH_done (by kernel_rfl) ?_ _
            refine NoPanic.normal ?_
            have g0 := Br_113.cell 0
            have g1 := Br_113.cell 1
            have g2 := Br_113.cell 2
            have F := F_113
            go_wp2
            exact bodyPost_ret (v := .tuple #[chartV W H (.slice A1 xs.length c1), .int .i64 row, .int .i64 col, .int .i64 (IntKind.i64.wrap (x102 + x104)), .int .i64 (IntKind.i64.wrap (x111 + x112))]) (by simp [results, Try.results5, go_sem, g0, g1, g2]) rfl ⟨W, H, A1, c1, xs, _, _, _, _, rfl, hsm, ⟨by omega, by omega⟩, ⟨by omega, by omega⟩, wrap_i64 _, wrap_i64 _, F.1, F.2⟩
          refine AllReadyH.cons rfl (fun K hK => ?_) AllReadyH.nil
          go_simp
          have hal114 := (Below.refl (wq104).heap.size (wq104)).alloc (Nat.le_refl _) (.cells #[.int .i64 1, .int .i64 1, .int .i64 1, .int .i64 2, .int .i64 0] 3)
          have C_114 := C_104.all hal114
          have Bx_114 := Bx_104.all hal114
          have Br_114 := Br_104.all hal114
          have O_114 := O_104.all hal114
          have HH_114 := HH_104.alloc HH_104.size (.cells #[.int .i64 1, .int .i64 1, .int .i64 1, .int .i64 2, .int .i64 0] 3)
          have Lit11_114 := Lit11_104.all hal114
          have Lit22_114 : Blk _ (wq104.heap.size) _ _ := Blk.new (wq104) #[.int .i64 1, .int .i64 1, .int .i64 1, .int .i64 2, .int .i64 0] 3
          obtain ⟨q114, hq114⟩ : ∃ q, wq104.heap.size = q := ⟨_, rfl⟩
          rw [hq114] at Lit22_114 ⊢
          obtain ⟨wq114, hw114⟩ : ∃ v, (wq104).alloc (.cells #[.int .i64 1, .int .i64 1, .int .i64 1, .int .i64 2, .int .i64 0] 3) = v := ⟨_, rfl⟩
          rw [hw114] at C_114 Bx_114 Br_114 O_114 HH_114 Lit11_114 Lit22_114 ⊢
          have hqp114 : q114 ≠ (w.heap.size + 1) := by have := C_104.lt; omega
          clear hal114 hw114 hq114
          refine hK.out _ _ (by exact ⟨Bx_114.cell 0, Bx_114.cell 1, Bx_114.cell 2⟩) (fun hHeld => ?_)
          clear hK K
          (try simp only [Act.put, List.getElem_toArray, List.getElem_cons_zero, List.getElem_cons_succ, List.setIfInBounds_toArray, List.set_cons_zero, List.set_cons_succ])
          clear hHeld
          refine wpAnyH_ready (rs := [19]) (by kernel_rfl) (by simp) ?_
          refine AllReadyH.cons rfl (fun K hK => ?_) AllReadyH.nil
          go_simp
          refine (l1Most_v 1 (W - col) M2 _ KM2.out).mono ?_
          rintro e wq115 ⟨rfl, rfl⟩
          refine hK.out _ _ (by exact ⟨Bx_114.cell 0, Bx_114.cell 1, Bx_114.cell 2⟩) (fun hHeld => ?_)
          clear hK K
          (try simp only [Act.put, List.getElem_toArray, List.getElem_cons_zero, List.getElem_cons_succ, List.setIfInBounds_toArray, List.set_cons_zero, List.set_cons_succ])
          clear hHeld
          refine wpAnyH_ready (rs := [20]) (by kernel_rfl) (by simp) ?_
          refine AllReadyH.cons rfl (fun K hK => ?_) AllReadyH.nil
          go_simp
          refine (pick_any (w.heap.size + 1) (((((((0 + 1000) + 2) + 2) + 2) + 2) + 2) + 2) (M2) _ C_114 (by omega) (by omega) (by omega)).mono ?_
          rintro e wq116 ⟨x116, rfl, hx116, hc, hg⟩
          have C_116 := hc
          have Bx_116 := Bx_114.mark hg (fun z hz => by cases hz; omega)
          have Br_116 := Br_114.mark hg (fun z hz => by cases hz; omega)
          have O_116 := O_114.mark hg (fun z z' hz hz' => by cases hz; exact fun e => hne1 z' hz' e.symm)
          have HH_116 := HH_114.trans (grown_below (B := w.heap.size) hg (by omega) HH_114.size)
          have Lit11_116 := Lit11_114.mark hg (fun z hz => by cases hz; omega)
          have Lit22_116 := Lit22_114.mark hg (fun z hz => by cases hz; omega)
          clear hc hg
          refine hK.out _ _ (by exact ⟨Bx_116.cell 0, Bx_116.cell 1, Bx_116.cell 2⟩) (fun hHeld => ?_)
          clear hK K
          (try simp only [Act.put, List.getElem_toArray, List.getElem_cons_zero, List.getElem_cons_succ, List.setIfInBounds_toArray, List.set_cons_zero, List.set_cons_succ])
          clear hHeld
          refine wpAnyH_ready (rs := [23]) (by kernel_rfl) (by simp) ?_
          refine AllReadyH.cons rfl (fun K hK => ?_) AllReadyH.nil
          go_simp
          refine (among_any (w.heap.size + 1) ((((((((0 + 1000) + 2) + 2) + 2) + 2) + 2) + 2) + 2) q114 0 5 5 _ [1, 1, 1, 2, 0] _ C_116 (by omega) (lit_rd2 (xs := [1, 1, 1, 2, 0]) Lit22_116 (I64.lit (by decide)) (by decide)) (by omega) (by omega) (by omega)).mono ?_
          rintro e wq117 ⟨x117, rfl, _, hc, hg⟩
          have C_117 := hc
          have Bx_117 := Bx_116.mark hg (fun z hz => by cases hz; omega)
          have Br_117 := Br_116.mark hg (fun z hz => by cases hz; omega)
          have O_117 := O_116.mark hg (fun z z' hz hz' => by cases hz; exact fun e => hne1 z' hz' e.symm)
          have HH_117 := HH_116.trans (grown_below (B := w.heap.size) hg (by omega) HH_116.size)
          have Lit11_117 := Lit11_116.mark hg (fun z hz => by cases hz; omega)
          have Lit22_117 := Lit22_116.mark hg (fun z hz => by cases hz; omega)
          clear hc hg
          refine hK.out _ _ (by exact ⟨Bx_117.cell 0, Bx_117.cell 1, Bx_117.cell 2⟩) (fun hHeld => ?_)
          clear hK K
          (try simp only [Act.put, List.getElem_toArray, List.getElem_cons_zero, List.getElem_cons_succ, List.setIfInBounds_toArray, List.set_cons_zero, List.set_cons_succ])
          refine wpAnyH_take (i := 24) (v := ?_) rfl (by kernel_rfl) (by kernel_rfl) (by kernel_rfl) (fun _ _ _ h => h) (Or.inl ⟨by rfl, ?_⟩) (by assumption) ?_
          rotate_left
          · intro w hSw; (try dsimp only at hSw); go_simp; (try with_reducible rfl)
          (try simp only [Act.put, List.getElem_toArray, List.getElem_cons_zero, List.getElem_cons_succ, List.setIfInBounds_toArray, List.set_cons_zero, List.set_cons_succ])
          clear hHeld
          refine wpAnyH_ready (rs := [25]) (by kernel_rfl) (by simp) ?_
          refine AllReadyH.cons rfl (fun K hK => ?_) AllReadyH.nil
          have g0_118 := Br_117.cell 0
          have g1_118 := Br_117.cell 1
          have g2_118 := Br_117.cell 2
          have z0_118 := Br_117.frozen 0
          have z1_118 := Br_117.frozen 1
          have z2_118 := Br_117.frozen 2
          have F_118 := fin3 (p := w.heap.size) (a := .int .i64 W) (b := .int .i64 H) (c := .slice A1 xs.length c1) O_117 (row_ne' O_117.1 Br_117 (by decide)) HH_117 (Nat.le_refl _)
          have Bx_118 := Bx_117.far3' (p := w.heap.size) (a := .int .i64 W) (b := .int .i64 H) (c := .slice A1 xs.length c1) (by omega)
          have Br_118 := Br_117.put3' (.int .i64 W) (.int .i64 H) (.slice A1 xs.length c1)
          go_simp
          refine hK.out _ _ (by exact ⟨Bx_118.cell 0, Bx_118.cell 1, Bx_118.cell 2⟩) (fun hHeld => ?_)
          clear hK K
          (try simp only [Act.put, List.getElem_toArray, List.getElem_cons_zero, List.getElem_cons_succ, List.setIfInBounds_toArray, List.set_cons_zero, List.set_cons_succ])
          refine wpAnyH_take (i := 26) (v := ?_) rfl (by kernel_rfl) (by kernel_rfl) (by kernel_rfl) (fun _ _ _ h => h) (Or.inl ⟨by rfl, ?_⟩) (by assumption) ?_
          rotate_left
          · intro w hSw; (try dsimp only at hSw); go_simp; (try with_reducible rfl)
          (try simp only [Act.put, List.getElem_toArray, List.getElem_cons_zero, List.getElem_cons_succ, List.setIfInBounds_toArray, List.set_cons_zero, List.set_cons_succ])
          refine wpAnyH_take (i := 27) (v := ?_) rfl (by kernel_rfl) (by kernel_rfl) (by kernel_rfl) (fun _ _ _ h => h) (Or.inl ⟨by rfl, ?_⟩) (by assumption) ?_
          rotate_left
          · intro w hSw; (try dsimp only at hSw); go_simp; (try with_reducible rfl)
          (try simp only [Act.put, List.getElem_toArray, List.getElem_cons_zero, List.getElem_cons_succ, List.setIfInBounds_toArray, List.set_cons_zero, List.set_cons_succ])
          refine wpAnyH_take (i := 28) (v := ?_) rfl (by kernel_rfl) (by kernel_rfl) (by kernel_rfl) (fun _ _ _ h => h) (Or.inl ⟨by rfl, ?_⟩) (by assumption) ?_
          rotate_left
          · intro w hSw; (try dsimp only at hSw); go_simp; (try with_reducible rfl)
          (try simp only [Act.put, List.getElem_toArray, List.getElem_cons_zero, List.getElem_cons_succ, List.setIfInBounds_toArray, List.set_cons_zero, List.set_cons_succ])
          refine wpAnyH_take (i := 29) (v := ?_) rfl (by kernel_rfl) (by kernel_rfl) (by kernel_rfl) (fun _ _ _ h => h) (Or.inl ⟨by rfl, ?_⟩) (by assumption) ?_
          rotate_left
          · intro w hSw; (try dsimp only at hSw); go_simp; (try with_reducible rfl)
          (try simp only [Act.put, List.getElem_toArray, List.getElem_cons_zero, List.getElem_cons_succ, List.setIfInBounds_toArray, List.set_cons_zero, List.set_cons_succ])
          refine wpAnyH_done (by kernel_rfl) ?_ _
          refine NoPanic.normal ?_
          have g0 := Br_118.cell 0
          have g1 := Br_118.cell 1
          have g2 := Br_118.cell 2
          have F := F_118
          go_wp2
          exact bodyPost_ret (v := .tuple #[chartV W H (.slice A1 xs.length c1), .int .i64 row, .int .i64 col, .int .i64 (IntKind.i64.wrap (x102 + x104)), .int .i64 (IntKind.i64.wrap (x116 + x117))]) (by simp [results, Try.results5, go_sem, g0, g1, g2]) rfl ⟨W, H, A1, c1, xs, _, _, _, _, rfl, hsm, ⟨by omega, by omega⟩, ⟨by omega, by omega⟩, wrap_i64 _, wrap_i64 _, F.1, F.2⟩
        refine AllReadyH.cons rfl (fun K hK => ?_) AllReadyH.nil
        go_simp
        have hal119 := (Below.refl (wq103).heap.size (wq103)).alloc (Nat.le_refl _) (.cells #[.int .i64 1, .int .i64 1, .int .i64 1, .int .i64 2, .int .i64 0] 3)
        have C_119 := C_103.all hal119
        have Bx_119 := Bx_103.all hal119
        have Br_119 := Br_103.all hal119
        have O_119 := O_103.all hal119
        have HH_119 := HH_103.alloc HH_103.size (.cells #[.int .i64 1, .int .i64 1, .int .i64 1, .int .i64 2, .int .i64 0] 3)
        have Lit11_119 := Lit11_103.all hal119
        have Lit22_119 : Blk _ (wq103.heap.size) _ _ := Blk.new (wq103) #[.int .i64 1, .int .i64 1, .int .i64 1, .int .i64 2, .int .i64 0] 3
        obtain ⟨q119, hq119⟩ : ∃ q, wq103.heap.size = q := ⟨_, rfl⟩
        rw [hq119] at Lit22_119 ⊢
        obtain ⟨wq119, hw119⟩ : ∃ v, (wq103).alloc (.cells #[.int .i64 1, .int .i64 1, .int .i64 1, .int .i64 2, .int .i64 0] 3) = v := ⟨_, rfl⟩
        rw [hw119] at C_119 Bx_119 Br_119 O_119 HH_119 Lit11_119 Lit22_119 ⊢
        have hqp119 : q119 ≠ (w.heap.size + 1) := by have := C_103.lt; omega
        clear hal119 hw119 hq119
        refine hK.out _ _ (by exact ⟨Bx_119.cell 0, Bx_119.cell 1, Bx_119.cell 2⟩) (fun hHeld => ?_)
        clear hK K
        (try simp only [Act.put, List.getElem_toArray, List.getElem_cons_zero, List.getElem_cons_succ, List.setIfInBounds_toArray, List.set_cons_zero, List.set_cons_succ])
        clear hHeld
        refine wpAnyH_ready (rs := [12]) (by kernel_rfl) (by simp) ?_
        refine AllReadyH.cons rfl (fun K hK => ?_) AllReadyH.nil
        go_simp
        refine (among_any (w.heap.size + 1) ((((((0 + 1000) + 2) + 2) + 2) + 2) + 2) q103 0 5 5 _ [1, 1, 1, 2, 0] _ C_119 (by omega) (lit_rd2 (xs := [1, 1, 1, 2, 0]) Lit11_119 (I64.lit (by decide)) (by decide)) (by omega) (by omega) (by omega)).mono ?_
        rintro e wq120 ⟨x120, rfl, _, hc, hg⟩
        have C_120 := hc
        have Bx_120 := Bx_119.mark hg (fun z hz => by cases hz; omega)
        have Br_120 := Br_119.mark hg (fun z hz => by cases hz; omega)
        have O_120 := O_119.mark hg (fun z z' hz hz' => by cases hz; exact fun e => hne1 z' hz' e.symm)
        have HH_120 := HH_119.trans (grown_below (B := w.heap.size) hg (by omega) HH_119.size)
        have Lit11_120 := Lit11_119.mark hg (fun z hz => by cases hz; omega)
        have Lit22_120 := Lit22_119.mark hg (fun z hz => by cases hz; omega)
        clear hc hg
        refine hK.out _ _ (by exact ⟨Bx_120.cell 0, Bx_120.cell 1, Bx_120.cell 2⟩) (fun hHeld => ?_)
        clear hK K
        (try simp only [Act.put, List.getElem_toArray, List.getElem_cons_zero, List.getElem_cons_succ, List.setIfInBounds_toArray, List.set_cons_zero, List.set_cons_succ])
        refine wpAnyH_take (i := 13) (v := ?_) rfl (by kernel_rfl) (by kernel_rfl) (by kernel_rfl) (fun _ _ _ h => h) (Or.inl ⟨by rfl, ?_⟩) (by assumption) ?_
        rotate_left
        · intro w hSw; (try dsimp only at hSw); go_simp; (try with_reducible rfl)
        (try simp only [Act.put, List.getElem_toArray, List.getElem_cons_zero, List.getElem_cons_succ, List.setIfInBounds_toArray, List.set_cons_zero, List.set_cons_succ])
        clear hHeld
        refine wpAnyH_ready (rs := [19]) (by kernel_rfl) (by simp) ?_
        refine AllReadyH.cons rfl (fun K hK => ?_) AllReadyH.nil
        go_simp
        refine (l1Most_v 1 (W - col) M2 _ KM2.out).mono ?_
        rintro e wq121 ⟨rfl, rfl⟩
        refine hK.out _ _ (by exact ⟨Bx_120.cell 0, Bx_120.cell 1, Bx_120.cell 2⟩) (fun hHeld => ?_)
        clear hK K
        (try simp only [Act.put, List.getElem_toArray, List.getElem_cons_zero, List.getElem_cons_succ, List.setIfInBounds_toArray, List.set_cons_zero, List.set_cons_succ])
        clear hHeld
        refine wpAnyH_ready (rs := [20]) (by kernel_rfl) (by simp) ?_
        refine AllReadyH.cons rfl (fun K hK => ?_) AllReadyH.nil
        go_simp
        refine (pick_any (w.heap.size + 1) (((((((0 + 1000) + 2) + 2) + 2) + 2) + 2) + 2) (M2) _ C_120 (by omega) (by omega) (by omega)).mono ?_
        rintro e wq122 ⟨x122, rfl, hx122, hc, hg⟩
        have C_122 := hc
        have Bx_122 := Bx_120.mark hg (fun z hz => by cases hz; omega)
        have Br_122 := Br_120.mark hg (fun z hz => by cases hz; omega)
        have O_122 := O_120.mark hg (fun z z' hz hz' => by cases hz; exact fun e => hne1 z' hz' e.symm)
        have HH_122 := HH_120.trans (grown_below (B := w.heap.size) hg (by omega) HH_120.size)
        have Lit11_122 := Lit11_120.mark hg (fun z hz => by cases hz; omega)
        have Lit22_122 := Lit22_120.mark hg (fun z hz => by cases hz; omega)
        clear hc hg
        refine hK.out _ _ (by exact ⟨Bx_122.cell 0, Bx_122.cell 1, Bx_122.cell 2⟩) (fun hHeld => ?_)
        clear hK K
        (try simp only [Act.put, List.getElem_toArray, List.getElem_cons_zero, List.getElem_cons_succ, List.setIfInBounds_toArray, List.set_cons_zero, List.set_cons_succ])
        clear hHeld
        refine wpAnyH_ready (rs := [23]) (by kernel_rfl) (by simp) ?_
        refine AllReadyH.cons rfl (fun K hK => ?_) AllReadyH.nil
        go_simp
        refine (among_any (w.heap.size + 1) ((((((((0 + 1000) + 2) + 2) + 2) + 2) + 2) + 2) + 2) q119 0 5 5 _ [1, 1, 1, 2, 0] _ C_122 (by omega) (lit_rd2 (xs := [1, 1, 1, 2, 0]) Lit22_122 (I64.lit (by decide)) (by decide)) (by omega) (by omega) (by omega)).mono ?_
        rintro e wq123 ⟨x123, rfl, _, hc, hg⟩
        have C_123 := hc
        have Bx_123 := Bx_122.mark hg (fun z hz => by cases hz; omega)
        have Br_123 := Br_122.mark hg (fun z hz => by cases hz; omega)
        have O_123 := O_122.mark hg (fun z z' hz hz' => by cases hz; exact fun e => hne1 z' hz' e.symm)
        have HH_123 := HH_122.trans (grown_below (B := w.heap.size) hg (by omega) HH_122.size)
        have Lit11_123 := Lit11_122.mark hg (fun z hz => by cases hz; omega)
        have Lit22_123 := Lit22_122.mark hg (fun z hz => by cases hz; omega)
        clear hc hg
        refine hK.out _ _ (by exact ⟨Bx_123.cell 0, Bx_123.cell 1, Bx_123.cell 2⟩) (fun hHeld => ?_)
        clear hK K
        (try simp only [Act.put, List.getElem_toArray, List.getElem_cons_zero, List.getElem_cons_succ, List.setIfInBounds_toArray, List.set_cons_zero, List.set_cons_succ])
        refine wpAnyH_take (i := 24) (v := ?_) rfl (by kernel_rfl) (by kernel_rfl) (by kernel_rfl) (fun _ _ _ h => h) (Or.inl ⟨by rfl, ?_⟩) (by assumption) ?_
        rotate_left
        · intro w hSw; (try dsimp only at hSw); go_simp; (try with_reducible rfl)
        (try simp only [Act.put, List.getElem_toArray, List.getElem_cons_zero, List.getElem_cons_succ, List.setIfInBounds_toArray, List.set_cons_zero, List.set_cons_succ])
        clear hHeld
        refine wpAnyH_ready (rs := [25]) (by kernel_rfl) (by simp) ?_
        refine AllReadyH.cons rfl (fun K hK => ?_) AllReadyH.nil
        have g0_124 := Br_123.cell 0
        have g1_124 := Br_123.cell 1
        have g2_124 := Br_123.cell 2
        have z0_124 := Br_123.frozen 0
        have z1_124 := Br_123.frozen 1
        have z2_124 := Br_123.frozen 2
        have F_124 := fin3 (p := w.heap.size) (a := .int .i64 W) (b := .int .i64 H) (c := .slice A1 xs.length c1) O_123 (row_ne' O_123.1 Br_123 (by decide)) HH_123 (Nat.le_refl _)
        have Bx_124 := Bx_123.far3' (p := w.heap.size) (a := .int .i64 W) (b := .int .i64 H) (c := .slice A1 xs.length c1) (by omega)
        have Br_124 := Br_123.put3' (.int .i64 W) (.int .i64 H) (.slice A1 xs.length c1)
        go_simp
        refine hK.out _ _ (by exact ⟨Bx_124.cell 0, Bx_124.cell 1, Bx_124.cell 2⟩) (fun hHeld => ?_)
        clear hK K
        (try simp only [Act.put, List.getElem_toArray, List.getElem_cons_zero, List.getElem_cons_succ, List.setIfInBounds_toArray, List.set_cons_zero, List.set_cons_succ])
        refine wpAnyH_take (i := 26) (v := ?_) rfl (by kernel_rfl) (by kernel_rfl) (by kernel_rfl) (fun _ _ _ h => h) (Or.inl ⟨by rfl, ?_⟩) (by assumption) ?_
        rotate_left
        · intro w hSw; (try dsimp only at hSw); go_simp; (try with_reducible rfl)
        (try simp only [Act.put, List.getElem_toArray, List.getElem_cons_zero, List.getElem_cons_succ, List.setIfInBounds_toArray, List.set_cons_zero, List.set_cons_succ])
        refine wpAnyH_take (i := 27) (v := ?_) rfl (by kernel_rfl) (by kernel_rfl) (by kernel_rfl) (fun _ _ _ h => h) (Or.inl ⟨by rfl, ?_⟩) (by assumption) ?_
        rotate_left
        · intro w hSw; (try dsimp only at hSw); go_simp; (try with_reducible rfl)
        (try simp only [Act.put, List.getElem_toArray, List.getElem_cons_zero, List.getElem_cons_succ, List.setIfInBounds_toArray, List.set_cons_zero, List.set_cons_succ])
        refine wpAnyH_take (i := 28) (v := ?_) rfl (by kernel_rfl) (by kernel_rfl) (by kernel_rfl) (fun _ _ _ h => h) (Or.inl ⟨by rfl, ?_⟩) (by assumption) ?_
        rotate_left
        · intro w hSw; (try dsimp only at hSw); go_simp; (try with_reducible rfl)
        (try simp only [Act.put, List.getElem_toArray, List.getElem_cons_zero, List.getElem_cons_succ, List.setIfInBounds_toArray, List.set_cons_zero, List.set_cons_succ])
        refine wpAnyH_take (i := 29) (v := ?_) rfl (by kernel_rfl) (by kernel_rfl) (by kernel_rfl) (fun _ _ _ h => h) (Or.inl ⟨by rfl, ?_⟩) (by assumption) ?_
        rotate_left
        · intro w hSw; (try dsimp only at hSw); go_simp; (try with_reducible rfl)
        (try simp only [Act.put, List.getElem_toArray, List.getElem_cons_zero, List.getElem_cons_succ, List.setIfInBounds_toArray, List.set_cons_zero, List.set_cons_succ])
        refine wpAnyH_done (by kernel_rfl) ?_ _
        refine NoPanic.normal ?_
        have g0 := Br_124.cell 0
        have g1 := Br_124.cell 1
        have g2 := Br_124.cell 2
        have F := F_124
        go_wp2
        exact bodyPost_ret (v := .tuple #[chartV W H (.slice A1 xs.length c1), .int .i64 row, .int .i64 col, .int .i64 (IntKind.i64.wrap (x102 + x120)), .int .i64 (IntKind.i64.wrap (x122 + x123))]) (by simp [results, Try.results5, go_sem, g0, g1, g2]) rfl ⟨W, H, A1, c1, xs, _, _, _, _, rfl, hsm, ⟨by omega, by omega⟩, ⟨by omega, by omega⟩, wrap_i64 _, wrap_i64 _, F.1, F.2⟩
      refine AllReadyH.cons rfl (fun K hK => ?_) AllReadyH.nil
      go_simp
      have hal125 := (Below.refl (wq102).heap.size (wq102)).alloc (Nat.le_refl _) (.cells #[.int .i64 1, .int .i64 1, .int .i64 1, .int .i64 2, .int .i64 0] 3)
      have C_125 := C_102.all hal125
      have Bx_125 := Bx_102.all hal125
      have Br_125 := Br_102.all hal125
      have O_125 := O_102.all hal125
      have HH_125 := HH_102.alloc HH_102.size (.cells #[.int .i64 1, .int .i64 1, .int .i64 1, .int .i64 2, .int .i64 0] 3)
      have Lit22_125 : Blk _ (wq102.heap.size) _ _ := Blk.new (wq102) #[.int .i64 1, .int .i64 1, .int .i64 1, .int .i64 2, .int .i64 0] 3
      obtain ⟨q125, hq125⟩ : ∃ q, wq102.heap.size = q := ⟨_, rfl⟩
      rw [hq125] at Lit22_125 ⊢
      obtain ⟨wq125, hw125⟩ : ∃ v, (wq102).alloc (.cells #[.int .i64 1, .int .i64 1, .int .i64 1, .int .i64 2, .int .i64 0] 3) = v := ⟨_, rfl⟩
      rw [hw125] at C_125 Bx_125 Br_125 O_125 HH_125 Lit22_125 ⊢
      have hqp125 : q125 ≠ (w.heap.size + 1) := by have := C_102.lt; omega
      clear hal125 hw125 hq125
      refine hK.out _ _ (by exact ⟨Bx_125.cell 0, Bx_125.cell 1, Bx_125.cell 2⟩) (fun hHeld => ?_)
      clear hK K
      (try simp only [Act.put, List.getElem_toArray, List.getElem_cons_zero, List.getElem_cons_succ, List.setIfInBounds_toArray, List.set_cons_zero, List.set_cons_succ])
      clear hHeld
      refine wpAnyH_ready (rs := [11]) (by kernel_rfl) (by simp) ?_
      refine AllReadyH.cons rfl (fun K hK => ?_) AllReadyH.nil
      go_simp
      have hal126 := (Below.refl (wq125).heap.size (wq125)).alloc (Nat.le_refl _) (.cells #[.int .i64 1, .int .i64 1, .int .i64 1, .int .i64 2, .int .i64 0] 3)
      have C_126 := C_125.all hal126
      have Bx_126 := Bx_125.all hal126
      have Br_126 := Br_125.all hal126
      have O_126 := O_125.all hal126
      have HH_126 := HH_125.alloc HH_125.size (.cells #[.int .i64 1, .int .i64 1, .int .i64 1, .int .i64 2, .int .i64 0] 3)
      have Lit22_126 := Lit22_125.all hal126
      have Lit11_126 : Blk _ (wq125.heap.size) _ _ := Blk.new (wq125) #[.int .i64 1, .int .i64 1, .int .i64 1, .int .i64 2, .int .i64 0] 3
      obtain ⟨q126, hq126⟩ : ∃ q, wq125.heap.size = q := ⟨_, rfl⟩
      rw [hq126] at Lit11_126 ⊢
      obtain ⟨wq126, hw126⟩ : ∃ v, (wq125).alloc (.cells #[.int .i64 1, .int .i64 1, .int .i64 1, .int .i64 2, .int .i64 0] 3) = v := ⟨_, rfl⟩
      rw [hw126] at C_126 Bx_126 Br_126 O_126 HH_126 Lit22_126 Lit11_126 ⊢
      have hqp126 : q126 ≠ (w.heap.size + 1) := by have := C_125.lt; omega
      clear hal126 hw126 hq126
      refine hK.out _ _ (by exact ⟨Bx_126.cell 0, Bx_126.cell 1, Bx_126.cell 2⟩) (fun hHeld => ?_)
      clear hK K
      (try simp only [Act.put, List.getElem_toArray, List.getElem_cons_zero, List.getElem_cons_succ, List.setIfInBounds_toArray, List.set_cons_zero, List.set_cons_succ])
      clear hHeld
      refine wpAnyH_ready (rs := [12]) (by kernel_rfl) (by simp) ?_
      refine AllReadyH.cons rfl (fun K hK => ?_) AllReadyH.nil
      go_simp
      refine (among_any (w.heap.size + 1) ((((((0 + 1000) + 2) + 2) + 2) + 2) + 2) q126 0 5 5 _ [1, 1, 1, 2, 0] _ C_126 (by omega) (lit_rd2 (xs := [1, 1, 1, 2, 0]) Lit11_126 (I64.lit (by decide)) (by decide)) (by omega) (by omega) (by omega)).mono ?_
      rintro e wq127 ⟨x127, rfl, _, hc, hg⟩
      have C_127 := hc
      have Bx_127 := Bx_126.mark hg (fun z hz => by cases hz; omega)
      have Br_127 := Br_126.mark hg (fun z hz => by cases hz; omega)
      have O_127 := O_126.mark hg (fun z z' hz hz' => by cases hz; exact fun e => hne1 z' hz' e.symm)
      have HH_127 := HH_126.trans (grown_below (B := w.heap.size) hg (by omega) HH_126.size)
      have Lit22_127 := Lit22_126.mark hg (fun z hz => by cases hz; omega)
      have Lit11_127 := Lit11_126.mark hg (fun z hz => by cases hz; omega)
      clear hc hg
      refine hK.out _ _ (by exact ⟨Bx_127.cell 0, Bx_127.cell 1, Bx_127.cell 2⟩) (fun hHeld => ?_)
      clear hK K
      (try simp only [Act.put, List.getElem_toArray, List.getElem_cons_zero, List.getElem_cons_succ, List.setIfInBounds_toArray, List.set_cons_zero, List.set_cons_succ])
      refine wpAnyH_take (i := 13) (v := ?_) rfl (by kernel_rfl) (by kernel_rfl) (by kernel_rfl) (fun _ _ _ h => h) (Or.inl ⟨by rfl, ?_⟩) (by assumption) ?_
      rotate_left
      · intro w hSw; (try dsimp only at hSw); go_simp; (try with_reducible rfl)
      (try simp only [Act.put, List.getElem_toArray, List.getElem_cons_zero, List.getElem_cons_succ, List.setIfInBounds_toArray, List.set_cons_zero, List.set_cons_succ])
      clear hHeld
      refine wpAnyH_ready (rs := [19]) (by kernel_rfl) (by simp) ?_
      refine AllReadyH.cons rfl (fun K hK => ?_) AllReadyH.nil
      go_simp
      refine (l1Most_v 1 (W - col) M2 _ KM2.out).mono ?_
      rintro e wq128 ⟨rfl, rfl⟩
      refine hK.out _ _ (by exact ⟨Bx_127.cell 0, Bx_127.cell 1, Bx_127.cell 2⟩) (fun hHeld => ?_)
      clear hK K
      (try simp only [Act.put, List.getElem_toArray, List.getElem_cons_zero, List.getElem_cons_succ, List.setIfInBounds_toArray, List.set_cons_zero, List.set_cons_succ])
      clear hHeld
      refine wpAnyH_ready (rs := [20]) (by kernel_rfl) (by simp) ?_
      refine AllReadyH.cons rfl (fun K hK => ?_) AllReadyH.nil
      go_simp
      refine (pick_any (w.heap.size + 1) (((((((0 + 1000) + 2) + 2) + 2) + 2) + 2) + 2) (M2) _ C_127 (by omega) (by omega) (by omega)).mono ?_
      rintro e wq129 ⟨x129, rfl, hx129, hc, hg⟩
      have C_129 := hc
      have Bx_129 := Bx_127.mark hg (fun z hz => by cases hz; omega)
      have Br_129 := Br_127.mark hg (fun z hz => by cases hz; omega)
      have O_129 := O_127.mark hg (fun z z' hz hz' => by cases hz; exact fun e => hne1 z' hz' e.symm)
      have HH_129 := HH_127.trans (grown_below (B := w.heap.size) hg (by omega) HH_127.size)
      have Lit22_129 := Lit22_127.mark hg (fun z hz => by cases hz; omega)
      have Lit11_129 := Lit11_127.mark hg (fun z hz => by cases hz; omega)
      clear hc hg
      refine hK.out _ _ (by exact ⟨Bx_129.cell 0, Bx_129.cell 1, Bx_129.cell 2⟩) (fun hHeld => ?_)
      clear hK K
      (try simp only [Act.put, List.getElem_toArray, List.getElem_cons_zero, List.getElem_cons_succ, List.setIfInBounds_toArray, List.set_cons_zero, List.set_cons_succ])
      clear hHeld
      refine wpAnyH_ready (rs := [23]) (by kernel_rfl) (by simp) ?_
      refine AllReadyH.cons rfl (fun K hK => ?_) AllReadyH.nil
      go_simp
      refine (among_any (w.heap.size + 1) ((((((((0 + 1000) + 2) + 2) + 2) + 2) + 2) + 2) + 2) q125 0 5 5 _ [1, 1, 1, 2, 0] _ C_129 (by omega) (lit_rd2 (xs := [1, 1, 1, 2, 0]) Lit22_129 (I64.lit (by decide)) (by decide)) (by omega) (by omega) (by omega)).mono ?_
      rintro e wq130 ⟨x130, rfl, _, hc, hg⟩
      have C_130 := hc
      have Bx_130 := Bx_129.mark hg (fun z hz => by cases hz; omega)
      have Br_130 := Br_129.mark hg (fun z hz => by cases hz; omega)
      have O_130 := O_129.mark hg (fun z z' hz hz' => by cases hz; exact fun e => hne1 z' hz' e.symm)
      have HH_130 := HH_129.trans (grown_below (B := w.heap.size) hg (by omega) HH_129.size)
      have Lit22_130 := Lit22_129.mark hg (fun z hz => by cases hz; omega)
      have Lit11_130 := Lit11_129.mark hg (fun z hz => by cases hz; omega)
      clear hc hg
      refine hK.out _ _ (by exact ⟨Bx_130.cell 0, Bx_130.cell 1, Bx_130.cell 2⟩) (fun hHeld => ?_)
      clear hK K
      (try simp only [Act.put, List.getElem_toArray, List.getElem_cons_zero, List.getElem_cons_succ, List.setIfInBounds_toArray, List.set_cons_zero, List.set_cons_succ])
      refine wpAnyH_take (i := 24) (v := ?_) rfl (by kernel_rfl) (by kernel_rfl) (by kernel_rfl) (fun _ _ _ h => h) (Or.inl ⟨by rfl, ?_⟩) (by assumption) ?_
      rotate_left
      · intro w hSw; (try dsimp only at hSw); go_simp; (try with_reducible rfl)
      (try simp only [Act.put, List.getElem_toArray, List.getElem_cons_zero, List.getElem_cons_succ, List.setIfInBounds_toArray, List.set_cons_zero, List.set_cons_succ])
      clear hHeld
      refine wpAnyH_ready (rs := [25]) (by kernel_rfl) (by simp) ?_
      refine AllReadyH.cons rfl (fun K hK => ?_) AllReadyH.nil
      have g0_131 := Br_130.cell 0
      have g1_131 := Br_130.cell 1
      have g2_131 := Br_130.cell 2
      have z0_131 := Br_130.frozen 0
      have z1_131 := Br_130.frozen 1
      have z2_131 := Br_130.frozen 2
      have F_131 := fin3 (p := w.heap.size) (a := .int .i64 W) (b := .int .i64 H) (c := .slice A1 xs.length c1) O_130 (row_ne' O_130.1 Br_130 (by decide)) HH_130 (Nat.le_refl _)
      have Bx_131 := Bx_130.far3' (p := w.heap.size) (a := .int .i64 W) (b := .int .i64 H) (c := .slice A1 xs.length c1) (by omega)
      have Br_131 := Br_130.put3' (.int .i64 W) (.int .i64 H) (.slice A1 xs.length c1)
      go_simp
      refine hK.out _ _ (by exact ⟨Bx_131.cell 0, Bx_131.cell 1, Bx_131.cell 2⟩) (fun hHeld => ?_)
      clear hK K
      (try simp only [Act.put, List.getElem_toArray, List.getElem_cons_zero, List.getElem_cons_succ, List.setIfInBounds_toArray, List.set_cons_zero, List.set_cons_succ])
      refine wpAnyH_take (i := 26) (v := ?_) rfl (by kernel_rfl) (by kernel_rfl) (by kernel_rfl) (fun _ _ _ h => h) (Or.inl ⟨by rfl, ?_⟩) (by assumption) ?_
      rotate_left
      · intro w hSw; (try dsimp only at hSw); go_simp; (try with_reducible rfl)
      (try simp only [Act.put, List.getElem_toArray, List.getElem_cons_zero, List.getElem_cons_succ, List.setIfInBounds_toArray, List.set_cons_zero, List.set_cons_succ])
      refine wpAnyH_take (i := 27) (v := ?_) rfl (by kernel_rfl) (by kernel_rfl) (by kernel_rfl) (fun _ _ _ h => h) (Or.inl ⟨by rfl, ?_⟩) (by assumption) ?_
      rotate_left
      · intro w hSw; (try dsimp only at hSw); go_simp; (try with_reducible rfl)
      (try simp only [Act.put, List.getElem_toArray, List.getElem_cons_zero, List.getElem_cons_succ, List.setIfInBounds_toArray, List.set_cons_zero, List.set_cons_succ])
      refine wpAnyH_take (i := 28) (v := ?_) rfl (by kernel_rfl) (by kernel_rfl) (by kernel_rfl) (fun _ _ _ h => h) (Or.inl ⟨by rfl, ?_⟩) (by assumption) ?_
      rotate_left
      · intro w hSw; (try dsimp only at hSw); go_simp; (try with_reducible rfl)
      (try simp only [Act.put, List.getElem_toArray, List.getElem_cons_zero, List.getElem_cons_succ, List.setIfInBounds_toArray, List.set_cons_zero, List.set_cons_succ])
      refine wpAnyH_take (i := 29) (v := ?_) rfl (by kernel_rfl) (by kernel_rfl) (by kernel_rfl) (fun _ _ _ h => h) (Or.inl ⟨by rfl, ?_⟩) (by assumption) ?_
      rotate_left
      · intro w hSw; (try dsimp only at hSw); go_simp; (try with_reducible rfl)
      (try simp only [Act.put, List.getElem_toArray, List.getElem_cons_zero, List.getElem_cons_succ, List.setIfInBounds_toArray, List.set_cons_zero, List.set_cons_succ])
      refine wpAnyH_done (by kernel_rfl) ?_ _
      refine NoPanic.normal ?_
      have g0 := Br_131.cell 0
      have g1 := Br_131.cell 1
      have g2 := Br_131.cell 2
      have F := F_131
      go_wp2
      exact bodyPost_ret (v := .tuple #[chartV W H (.slice A1 xs.length c1), .int .i64 row, .int .i64 col, .int .i64 (IntKind.i64.wrap (x102 + x127)), .int .i64 (IntKind.i64.wrap (x129 + x130))]) (by simp [results, Try.results5, go_sem, g0, g1, g2]) rfl ⟨W, H, A1, c1, xs, _, _, _, _, rfl, hsm, ⟨by omega, by omega⟩, ⟨by omega, by omega⟩, wrap_i64 _, wrap_i64 _, F.1, F.2⟩
    refine AllReadyH.cons rfl (fun K hK => ?_) ?_
    · skip
      go_simp
      have hal132 := (Below.refl (wd100).heap.size (wd100)).alloc (Nat.le_refl _) (.cells #[.int .i64 1, .int .i64 1, .int .i64 1, .int .i64 2, .int .i64 0] 3)
      have C_132 := C_0.all hal132
      have Bx_132 := Bx_0.all hal132
      have Br_132 := Br_0.all hal132
      have O_132 := O_0.all hal132
      have HH_132 := HH_0.alloc HH_0.size (.cells #[.int .i64 1, .int .i64 1, .int .i64 1, .int .i64 2, .int .i64 0] 3)
      have Lit11_132 : Blk _ (wd100.heap.size) _ _ := Blk.new (wd100) #[.int .i64 1, .int .i64 1, .int .i64 1, .int .i64 2, .int .i64 0] 3
      obtain ⟨q132, hq132⟩ : ∃ q, wd100.heap.size = q := ⟨_, rfl⟩
      rw [hq132] at Lit11_132 ⊢
      obtain ⟨wq132, hw132⟩ : ∃ v, (wd100).alloc (.cells #[.int .i64 1, .int .i64 1, .int .i64 1, .int .i64 2, .int .i64 0] 3) = v := ⟨_, rfl⟩
      rw [hw132] at C_132 Bx_132 Br_132 O_132 HH_132 Lit11_132 ⊢
      have hqp132 : q132 ≠ (w.heap.size + 1) := by have := C_0.lt; omega
      clear hal132 hw132 hq132
      refine hK.out _ _ (by exact ⟨Bx_132.cell 0, Bx_132.cell 1, Bx_132.cell 2⟩) (fun hHeld => ?_)
      clear hK K
      (try simp only [Act.put, List.getElem_toArray, List.getElem_cons_zero, List.getElem_cons_succ, List.setIfInBounds_toArray, List.set_cons_zero, List.set_cons_succ])
      clear hHeld
      refine wpAnyH_ready (rs := [9, 22]) (by kernel_rfl) (by simp) ?_
      refine AllReadyH.cons rfl (fun K hK => ?_) ?_
      · skip
        go_simp
        refine (pick_any (w.heap.size + 1) (((((0 + 1000) + 2) + 2) + 2) + 2) (M1) _ C_132 (by omega) (by omega) (by omega)).mono ?_
        rintro e wq133 ⟨x133, rfl, hx133, hc, hg⟩
        have C_133 := hc
        have Bx_133 := Bx_132.mark hg (fun z hz => by cases hz; omega)
        have Br_133 := Br_132.mark hg (fun z hz => by cases hz; omega)
        have O_133 := O_132.mark hg (fun z z' hz hz' => by cases hz; exact fun e => hne1 z' hz' e.symm)
        have HH_133 := HH_132.trans (grown_below (B := w.heap.size) hg (by omega) HH_132.size)
        have Lit11_133 := Lit11_132.mark hg (fun z hz => by cases hz; omega)
        clear hc hg
        refine hK.out _ _ (by exact ⟨Bx_133.cell 0, Bx_133.cell 1, Bx_133.cell 2⟩) (fun hHeld => ?_)
        clear hK K
        (try simp only [Act.put, List.getElem_toArray, List.getElem_cons_zero, List.getElem_cons_succ, List.setIfInBounds_toArray, List.set_cons_zero, List.set_cons_succ])
        clear hHeld
        refine wpAnyH_ready (rs := [12, 22]) (by kernel_rfl) (by simp) ?_
        refine AllReadyH.cons rfl (fun K hK => ?_) ?_
        · skip
          go_simp
          refine (among_any (w.heap.size + 1) ((((((0 + 1000) + 2) + 2) + 2) + 2) + 2) q132 0 5 5 _ [1, 1, 1, 2, 0] _ C_133 (by omega) (lit_rd2 (xs := [1, 1, 1, 2, 0]) Lit11_133 (I64.lit (by decide)) (by decide)) (by omega) (by omega) (by omega)).mono ?_
          rintro e wq134 ⟨x134, rfl, _, hc, hg⟩
          have C_134 := hc
          have Bx_134 := Bx_133.mark hg (fun z hz => by cases hz; omega)
          have Br_134 := Br_133.mark hg (fun z hz => by cases hz; omega)
          have O_134 := O_133.mark hg (fun z z' hz hz' => by cases hz; exact fun e => hne1 z' hz' e.symm)
          have HH_134 := HH_133.trans (grown_below (B := w.heap.size) hg (by omega) HH_133.size)
          have Lit11_134 := Lit11_133.mark hg (fun z hz => by cases hz; omega)
          clear hc hg
          refine hK.out _ _ (by exact ⟨Bx_134.cell 0, Bx_134.cell 1, Bx_134.cell 2⟩) (fun hHeld => ?_)
          clear hK K
          (try simp only [Act.put, List.getElem_toArray, List.getElem_cons_zero, List.getElem_cons_succ, List.setIfInBounds_toArray, List.set_cons_zero, List.set_cons_succ])
          refine wpAnyH_take (i := 13) (v := ?_) rfl (by kernel_rfl) (by kernel_rfl) (by kernel_rfl) (fun _ _ _ h => h) (Or.inl ⟨by rfl, ?_⟩) (by assumption) ?_
          rotate_left
          · intro w hSw; (try dsimp only at hSw); go_simp; (try with_reducible rfl)
          (try simp only [Act.put, List.getElem_toArray, List.getElem_cons_zero, List.getElem_cons_succ, List.setIfInBounds_toArray, List.set_cons_zero, List.set_cons_succ])
          clear hHeld
          refine wpAnyH_ready (rs := [19, 22]) (by kernel_rfl) (by simp) ?_
          refine AllReadyH.cons rfl (fun K hK => ?_) ?_
          · skip
            go_simp
            refine (l1Most_v 1 (W - col) M2 _ KM2.out).mono ?_
            rintro e wq135 ⟨rfl, rfl⟩
            refine hK.out _ _ (by exact ⟨Bx_134.cell 0, Bx_134.cell 1, Bx_134.cell 2⟩) (fun hHeld => ?_)
            clear hK K
            (try simp only [Act.put, List.getElem_toArray, List.getElem_cons_zero, List.getElem_cons_succ, List.setIfInBounds_toArray, List.set_cons_zero, List.set_cons_succ])
            clear hHeld
            refine wpAnyH_ready (rs := [20, 22]) (by kernel_rfl) (by simp) ?_
            refine AllReadyH.cons rfl (fun K hK => ?_) ?_
            · skip
              go_simp
              refine (pick_any (w.heap.size + 1) (((((((0 + 1000) + 2) + 2) + 2) + 2) + 2) + 2) (M2) _ C_134 (by omega) (by omega) (by omega)).mono ?_
              rintro e wq136 ⟨x136, rfl, hx136, hc, hg⟩
              have C_136 := hc
              have Bx_136 := Bx_134.mark hg (fun z hz => by cases hz; omega)
              have Br_136 := Br_134.mark hg (fun z hz => by cases hz; omega)
              have O_136 := O_134.mark hg (fun z z' hz hz' => by cases hz; exact fun e => hne1 z' hz' e.symm)
              have HH_136 := HH_134.trans (grown_below (B := w.heap.size) hg (by omega) HH_134.size)
              have Lit11_136 := Lit11_134.mark hg (fun z hz => by cases hz; omega)
              clear hc hg
              refine hK.out _ _ (by exact ⟨Bx_136.cell 0, Bx_136.cell 1, Bx_136.cell 2⟩) (fun hHeld => ?_)
              clear hK K
              (try simp only [Act.put, List.getElem_toArray, List.getElem_cons_zero, List.getElem_cons_succ, List.setIfInBounds_toArray, List.set_cons_zero, List.set_cons_succ])
              clear hHeld
              refine wpAnyH_ready (rs := [22]) (by kernel_rfl) (by simp) ?_
              refine AllReadyH.cons rfl (fun K hK => ?_) AllReadyH.nil
              go_simp
              have hal137 := (Below.refl (wq136).heap.size (wq136)).alloc (Nat.le_refl _) (.cells #[.int .i64 1, .int .i64 1, .int .i64 1, .int .i64 2, .int .i64 0] 3)
              have C_137 := C_136.all hal137
              have Bx_137 := Bx_136.all hal137
              have Br_137 := Br_136.all hal137
              have O_137 := O_136.all hal137
              have HH_137 := HH_136.alloc HH_136.size (.cells #[.int .i64 1, .int .i64 1, .int .i64 1, .int .i64 2, .int .i64 0] 3)
              have Lit11_137 := Lit11_136.all hal137
              have Lit22_137 : Blk _ (wq136.heap.size) _ _ := Blk.new (wq136) #[.int .i64 1, .int .i64 1, .int .i64 1, .int .i64 2, .int .i64 0] 3
              obtain ⟨q137, hq137⟩ : ∃ q, wq136.heap.size = q := ⟨_, rfl⟩
              rw [hq137] at Lit22_137 ⊢
              obtain ⟨wq137, hw137⟩ : ∃ v, (wq136).alloc (.cells #[.int .i64 1, .int .i64 1, .int .i64 1, .int .i64 2, .int .i64 0] 3) = v := ⟨_, rfl⟩
              rw [hw137] at C_137 Bx_137 Br_137 O_137 HH_137 Lit11_137 Lit22_137 ⊢
              have hqp137 : q137 ≠ (w.heap.size + 1) := by have := C_136.lt; omega
              clear hal137 hw137 hq137
              refine hK.out _ _ (by exact ⟨Bx_137.cell 0, Bx_137.cell 1, Bx_137.cell 2⟩) (fun hHeld => ?_)
              clear hK K
              (try simp only [Act.put, List.getElem_toArray, List.getElem_cons_zero, List.getElem_cons_succ, List.setIfInBounds_toArray, List.set_cons_zero, List.set_cons_succ])
              clear hHeld
              refine wpAnyH_ready (rs := [23]) (by kernel_rfl) (by simp) ?_
              refine AllReadyH.cons rfl (fun K hK => ?_) AllReadyH.nil
              go_simp
              refine (among_any (w.heap.size + 1) ((((((((0 + 1000) + 2) + 2) + 2) + 2) + 2) + 2) + 2) q137 0 5 5 _ [1, 1, 1, 2, 0] _ C_137 (by omega) (lit_rd2 (xs := [1, 1, 1, 2, 0]) Lit22_137 (I64.lit (by decide)) (by decide)) (by omega) (by omega) (by omega)).mono ?_
              rintro e wq138 ⟨x138, rfl, _, hc, hg⟩
              have C_138 := hc
              have Bx_138 := Bx_137.mark hg (fun z hz => by cases hz; omega)
              have Br_138 := Br_137.mark hg (fun z hz => by cases hz; omega)
              have O_138 := O_137.mark hg (fun z z' hz hz' => by cases hz; exact fun e => hne1 z' hz' e.symm)
              have HH_138 := HH_137.trans (grown_below (B := w.heap.size) hg (by omega) HH_137.size)
              have Lit11_138 := Lit11_137.mark hg (fun z hz => by cases hz; omega)
              have Lit22_138 := Lit22_137.mark hg (fun z hz => by cases hz; omega)
              clear hc hg
              refine hK.out _ _ (by exact ⟨Bx_138.cell 0, Bx_138.cell 1, Bx_138.cell 2⟩) (fun hHeld => ?_)
              clear hK K
              (try simp only [Act.put, List.getElem_toArray, List.getElem_cons_zero, List.getElem_cons_succ, List.setIfInBounds_toArray, List.set_cons_zero, List.set_cons_succ])
              refine wpAnyH_take (i := 24) (v := ?_) rfl (by kernel_rfl) (by kernel_rfl) (by kernel_rfl) (fun _ _ _ h => h) (Or.inl ⟨by rfl, ?_⟩) (by assumption) ?_
              rotate_left
              · intro w hSw; (try dsimp only at hSw); go_simp; (try with_reducible rfl)
              (try simp only [Act.put, List.getElem_toArray, List.getElem_cons_zero, List.getElem_cons_succ, List.setIfInBounds_toArray, List.set_cons_zero, List.set_cons_succ])
              clear hHeld
              refine wpAnyH_ready (rs := [25]) (by kernel_rfl) (by simp) ?_
              refine AllReadyH.cons rfl (fun K hK => ?_) AllReadyH.nil
              have g0_139 := Br_138.cell 0
              have g1_139 := Br_138.cell 1
              have g2_139 := Br_138.cell 2
              have z0_139 := Br_138.frozen 0
              have z1_139 := Br_138.frozen 1
              have z2_139 := Br_138.frozen 2
              have F_139 := fin3 (p := w.heap.size) (a := .int .i64 W) (b := .int .i64 H) (c := .slice A1 xs.length c1) O_138 (row_ne' O_138.1 Br_138 (by decide)) HH_138 (Nat.le_refl _)
              have Bx_139 := Bx_138.far3' (p := w.heap.size) (a := .int .i64 W) (b := .int .i64 H) (c := .slice A1 xs.length c1) (by omega)
              have Br_139 := Br_138.put3' (.int .i64 W) (.int .i64 H) (.slice A1 xs.length c1)
              go_simp
              refine hK.out _ _ (by exact ⟨Bx_139.cell 0, Bx_139.cell 1, Bx_139.cell 2⟩) (fun hHeld => ?_)
              clear hK K
              (try simp only [Act.put, List.getElem_toArray, List.getElem_cons_zero, List.getElem_cons_succ, List.setIfInBounds_toArray, List.set_cons_zero, List.set_cons_succ])
              refine wpAnyH_take (i := 26) (v := ?_) rfl (by kernel_rfl) (by kernel_rfl) (by kernel_rfl) (fun _ _ _ h => h) (Or.inl ⟨by rfl, ?_⟩) (by assumption) ?_
              rotate_left
              · intro w hSw; (try dsimp only at hSw); go_simp; (try with_reducible rfl)
              (try simp only [Act.put, List.getElem_toArray, List.getElem_cons_zero, List.getElem_cons_succ, List.setIfInBounds_toArray, List.set_cons_zero, List.set_cons_succ])
              refine wpAnyH_take (i := 27) (v := ?_) rfl (by kernel_rfl) (by kernel_rfl) (by kernel_rfl) (fun _ _ _ h => h) (Or.inl ⟨by rfl, ?_⟩) (by assumption) ?_
              rotate_left
              · intro w hSw; (try dsimp only at hSw); go_simp; (try with_reducible rfl)
              (try simp only [Act.put, List.getElem_toArray, List.getElem_cons_zero, List.getElem_cons_succ, List.setIfInBounds_toArray, List.set_cons_zero, List.set_cons_succ])
              refine wpAnyH_take (i := 28) (v := ?_) rfl (by kernel_rfl) (by kernel_rfl) (by kernel_rfl) (fun _ _ _ h => h) (Or.inl ⟨by rfl, ?_⟩) (by assumption) ?_
              rotate_left
              · intro w hSw; (try dsimp only at hSw); go_simp; (try with_reducible rfl)
              (try simp only [Act.put, List.getElem_toArray, List.getElem_cons_zero, List.getElem_cons_succ, List.setIfInBounds_toArray, List.set_cons_zero, List.set_cons_succ])
              refine wpAnyH_take (i := 29) (v := ?_) rfl (by kernel_rfl) (by kernel_rfl) (by kernel_rfl) (fun _ _ _ h => h) (Or.inl ⟨by rfl, ?_⟩) (by assumption) ?_
              rotate_left
              · intro w hSw; (try dsimp only at hSw); go_simp; (try with_reducible rfl)
              (try simp only [Act.put, List.getElem_toArray, List.getElem_cons_zero, List.getElem_cons_succ, List.setIfInBounds_toArray, List.set_cons_zero, List.set_cons_succ])
              refine wpAnyH_done (by kernel_rfl) ?_ _
              refine NoPanic.normal ?_
              have g0 := Br_139.cell 0
              have g1 := Br_139.cell 1
              have g2 := Br_139.cell 2
              have F := F_139
              go_wp2
              exact bodyPost_ret (v := .tuple #[chartV W H (.slice A1 xs.length c1), .int .i64 row, .int .i64 col, .int .i64 (IntKind.i64.wrap (x133 + x134)), .int .i64 (IntKind.i64.wrap (x136 + x138))]) (by simp [results, Try.results5, go_sem, g0, g1, g2]) rfl ⟨W, H, A1, c1, xs, _, _, _, _, rfl, hsm, ⟨by omega, by omega⟩, ⟨by omega, by omega⟩, wrap_i64 _, wrap_i64 _, F.1, F.2⟩
            refine AllReadyH.cons rfl (fun K hK => ?_) AllReadyH.nil
            go_simp
            have hal140 := (Below.refl (wq134).heap.size (wq134)).alloc (Nat.le_refl _) (.cells #[.int .i64 1, .int .i64 1, .int .i64 1, .int .i64 2, .int .i64 0] 3)
            have C_140 := C_134.all hal140
            have Bx_140 := Bx_134.all hal140
            have Br_140 := Br_134.all hal140
            have O_140 := O_134.all hal140
            have HH_140 := HH_134.alloc HH_134.size (.cells #[.int .i64 1, .int .i64 1, .int .i64 1, .int .i64 2, .int .i64 0] 3)
            have Lit11_140 := Lit11_134.all hal140
            have Lit22_140 : Blk _ (wq134.heap.size) _ _ := Blk.new (wq134) #[.int .i64 1, .int .i64 1, .int .i64 1, .int .i64 2, .int .i64 0] 3
            obtain ⟨q140, hq140⟩ : ∃ q, wq134.heap.size = q := ⟨_, rfl⟩
            rw [hq140] at Lit22_140 ⊢
            obtain ⟨wq140, hw140⟩ : ∃ v, (wq134).alloc (.cells #[.int .i64 1, .int .i64 1, .int .i64 1, .int .i64 2, .int .i64 0] 3) = v := ⟨_, rfl⟩
            rw [hw140] at C_140 Bx_140 Br_140 O_140 HH_140 Lit11_140 Lit22_140 ⊢
            have hqp140 : q140 ≠ (w.heap.size + 1) := by have := C_134.lt; omega
            clear hal140 hw140 hq140
            refine hK.out _ _ (by exact ⟨Bx_140.cell 0, Bx_140.cell 1, Bx_140.cell 2⟩) (fun hHeld => ?_)
            clear hK K
            (try simp only [Act.put, List.getElem_toArray, List.getElem_cons_zero, List.getElem_cons_succ, List.setIfInBounds_toArray, List.set_cons_zero, List.set_cons_succ])
            clear hHeld
            refine wpAnyH_ready (rs := [20]) (by kernel_rfl) (by simp) ?_
            refine AllReadyH.cons rfl (fun K hK => ?_) AllReadyH.nil
            go_simp
            refine (pick_any (w.heap.size + 1) (((((((0 + 1000) + 2) + 2) + 2) + 2) + 2) + 2) (M2) _ C_140 (by omega) (by omega) (by omega)).mono ?_
            rintro e wq141 ⟨x141, rfl, hx141, hc, hg⟩
            have C_141 := hc
            have Bx_141 := Bx_140.mark hg (fun z hz => by cases hz; omega)
            have Br_141 := Br_140.mark hg (fun z hz => by cases hz; omega)
            have O_141 := O_140.mark hg (fun z z' hz hz' => by cases hz; exact fun e => hne1 z' hz' e.symm)
            have HH_141 := HH_140.trans (grown_below (B := w.heap.size) hg (by omega) HH_140.size)
            have Lit11_141 := Lit11_140.mark hg (fun z hz => by cases hz; omega)
            have Lit22_141 := Lit22_140.mark hg (fun z hz => by cases hz; omega)
            clear hc hg
            refine hK.out _ _ (by exact ⟨Bx_141.cell 0, Bx_141.cell 1, Bx_141.cell 2⟩) (fun hHeld => ?_)
            clear hK K
            (try simp only [Act.put, List.getElem_toArray, List.getElem_cons_zero, List.getElem_cons_succ, List.setIfInBounds_toArray, List.set_cons_zero, List.set_cons_succ])
            clear hHeld
            refine wpAnyH_ready (rs := [23]) (by kernel_rfl) (by simp) ?_
            refine AllReadyH.cons rfl (fun K hK => ?_) AllReadyH.nil
            go_simp
            refine (among_any (w.heap.size + 1) ((((((((0 + 1000) + 2) + 2) + 2) + 2) + 2) + 2) + 2) q140 0 5 5 _ [1, 1, 1, 2, 0] _ C_141 (by omega) (lit_rd2 (xs := [1, 1, 1, 2, 0]) Lit22_141 (I64.lit (by decide)) (by decide)) (by omega) (by omega) (by omega)).mono ?_
            rintro e wq142 ⟨x142, rfl, _, hc, hg⟩
            have C_142 := hc
            have Bx_142 := Bx_141.mark hg (fun z hz => by cases hz; omega)
            have Br_142 := Br_141.mark hg (fun z hz => by cases hz; omega)
            have O_142 := O_141.mark hg (fun z z' hz hz' => by cases hz; exact fun e => hne1 z' hz' e.symm)
            have HH_142 := HH_141.trans (grown_below (B := w.heap.size) hg (by omega) HH_141.size)
            have Lit11_142 := Lit11_141.mark hg (fun z hz => by cases hz; omega)
            have Lit22_142 := Lit22_141.mark hg (fun z hz => by cases hz; omega)
            clear hc hg
            refine hK.out _ _ (by exact ⟨Bx_142.cell 0, Bx_142.cell 1, Bx_142.cell 2⟩) (fun hHeld => ?_)
            clear hK K
            (try simp only [Act.put, List.getElem_toArray, List.getElem_cons_zero, List.getElem_cons_succ, List.setIfInBounds_toArray, List.set_cons_zero, List.set_cons_succ])
            refine wpAnyH_take (i := 24) (v := ?_) rfl (by kernel_rfl) (by kernel_rfl) (by kernel_rfl) (fun _ _ _ h => h) (Or.inl ⟨by rfl, ?_⟩) (by assumption) ?_
            rotate_left
            · intro w hSw; (try dsimp only at hSw); go_simp; (try with_reducible rfl)
            (try simp only [Act.put, List.getElem_toArray, List.getElem_cons_zero, List.getElem_cons_succ, List.setIfInBounds_toArray, List.set_cons_zero, List.set_cons_succ])
            clear hHeld
            refine wpAnyH_ready (rs := [25]) (by kernel_rfl) (by simp) ?_
            refine AllReadyH.cons rfl (fun K hK => ?_) AllReadyH.nil
            have g0_143 := Br_142.cell 0
            have g1_143 := Br_142.cell 1
            have g2_143 := Br_142.cell 2
            have z0_143 := Br_142.frozen 0
            have z1_143 := Br_142.frozen 1
            have z2_143 := Br_142.frozen 2
            have F_143 := fin3 (p := w.heap.size) (a := .int .i64 W) (b := .int .i64 H) (c := .slice A1 xs.length c1) O_142 (row_ne' O_142.1 Br_142 (by decide)) HH_142 (Nat.le_refl _)
            have Bx_143 := Bx_142.far3' (p := w.heap.size) (a := .int .i64 W) (b := .int .i64 H) (c := .slice A1 xs.length c1) (by omega)
            have Br_143 := Br_142.put3' (.int .i64 W) (.int .i64 H) (.slice A1 xs.length c1)
            go_simp
            refine hK.out _ _ (by exact ⟨Bx_143.cell 0, Bx_143.cell 1, Bx_143.cell 2⟩) (fun hHeld => ?_)
            clear hK K
            (try simp only [Act.put, List.getElem_toArray, List.getElem_cons_zero, List.getElem_cons_succ, List.setIfInBounds_toArray, List.set_cons_zero, List.set_cons_succ])
            refine wpAnyH_take (i := 26) (v := ?_) rfl (by kernel_rfl) (by kernel_rfl) (by kernel_rfl) (fun _ _ _ h => h) (Or.inl ⟨by rfl, ?_⟩) (by assumption) ?_
            rotate_left
            · intro w hSw; (try dsimp only at hSw); go_simp; (try with_reducible rfl)
            (try simp only [Act.put, List.getElem_toArray, List.getElem_cons_zero, List.getElem_cons_succ, List.setIfInBounds_toArray, List.set_cons_zero, List.set_cons_succ])
            refine wpAnyH_take (i := 27) (v := ?_) rfl (by kernel_rfl) (by kernel_rfl) (by kernel_rfl) (fun _ _ _ h => h) (Or.inl ⟨by rfl, ?_⟩) (by assumption) ?_
            rotate_left
            · intro w hSw; (try dsimp only at hSw); go_simp; (try with_reducible rfl)
            (try simp only [Act.put, List.getElem_toArray, List.getElem_cons_zero, List.getElem_cons_succ, List.setIfInBounds_toArray, List.set_cons_zero, List.set_cons_succ])
            refine wpAnyH_take (i := 28) (v := ?_) rfl (by kernel_rfl) (by kernel_rfl) (by kernel_rfl) (fun _ _ _ h => h) (Or.inl ⟨by rfl, ?_⟩) (by assumption) ?_
            rotate_left
            · intro w hSw; (try dsimp only at hSw); go_simp; (try with_reducible rfl)
            (try simp only [Act.put, List.getElem_toArray, List.getElem_cons_zero, List.getElem_cons_succ, List.setIfInBounds_toArray, List.set_cons_zero, List.set_cons_succ])
            refine wpAnyH_take (i := 29) (v := ?_) rfl (by kernel_rfl) (by kernel_rfl) (by kernel_rfl) (fun _ _ _ h => h) (Or.inl ⟨by rfl, ?_⟩) (by assumption) ?_
            rotate_left
            · intro w hSw; (try dsimp only at hSw); go_simp; (try with_reducible rfl)
            (try simp only [Act.put, List.getElem_toArray, List.getElem_cons_zero, List.getElem_cons_succ, List.setIfInBounds_toArray, List.set_cons_zero, List.set_cons_succ])
            refine wpAnyH_done (by kernel_rfl) ?_ _
            refine NoPanic.normal ?_
            have g0 := Br_143.cell 0
            have g1 := Br_143.cell 1
            have g2 := Br_143.cell 2
            have F := F_143
            go_wp2
            exact bodyPost_ret (v := .tuple #[chartV W H (.slice A1 xs.length c1), .int .i64 row, .int .i64 col, .int .i64 (IntKind.i64.wrap (x133 + x134)), .int .i64 (IntKind.i64.wrap (x141 + x142))]) (by simp [results, Try.results5, go_sem, g0, g1, g2]) rfl ⟨W, H, A1, c1, xs, _, _, _, _, rfl, hsm, ⟨by omega, by omega⟩, ⟨by omega, by omega⟩, wrap_i64 _, wrap_i64 _, F.1, F.2⟩
          refine AllReadyH.cons rfl (fun K hK => ?_) AllReadyH.nil
          go_simp
          have hal144 := (Below.refl (wq134).heap.size (wq134)).alloc (Nat.le_refl _) (.cells #[.int .i64 1, .int .i64 1, .int .i64 1, .int .i64 2, .int .i64 0] 3)
          have C_144 := C_134.all hal144
          have Bx_144 := Bx_134.all hal144
          have Br_144 := Br_134.all hal144
          have O_144 := O_134.all hal144
          have HH_144 := HH_134.alloc HH_134.size (.cells #[.int .i64 1, .int .i64 1, .int .i64 1, .int .i64 2, .int .i64 0] 3)
          have Lit11_144 := Lit11_134.all hal144
          have Lit22_144 : Blk _ (wq134.heap.size) _ _ := Blk.new (wq134) #[.int .i64 1, .int .i64 1, .int .i64 1, .int .i64 2, .int .i64 0] 3
          obtain ⟨q144, hq144⟩ : ∃ q, wq134.heap.size = q := ⟨_, rfl⟩
          rw [hq144] at Lit22_144 ⊢
          obtain ⟨wq144, hw144⟩ : ∃ v, (wq134).alloc (.cells #[.int .i64 1, .int .i64 1, .int .i64 1, .int .i64 2, .int .i64 0] 3) = v := ⟨_, rfl⟩
          rw [hw144] at C_144 Bx_144 Br_144 O_144 HH_144 Lit11_144 Lit22_144 ⊢
          have hqp144 : q144 ≠ (w.heap.size + 1) := by have := C_134.lt; omega
          clear hal144 hw144 hq144
          refine hK.out _ _ (by exact ⟨Bx_144.cell 0, Bx_144.cell 1, Bx_144.cell 2⟩) (fun hHeld => ?_)
          clear hK K
          (try simp only [Act.put, List.getElem_toArray, List.getElem_cons_zero, List.getElem_cons_succ, List.setIfInBounds_toArray, List.set_cons_zero, List.set_cons_succ])
          clear hHeld
          refine wpAnyH_ready (rs := [19]) (by kernel_rfl) (by simp) ?_
          refine AllReadyH.cons rfl (fun K hK => ?_) AllReadyH.nil
          go_simp
          refine (l1Most_v 1 (W - col) M2 _ KM2.out).mono ?_
          rintro e wq145 ⟨rfl, rfl⟩
          refine hK.out _ _ (by exact ⟨Bx_144.cell 0, Bx_144.cell 1, Bx_144.cell 2⟩) (fun hHeld => ?_)
          clear hK K
          (try simp only [Act.put, List.getElem_toArray, List.getElem_cons_zero, List.getElem_cons_succ, List.setIfInBounds_toArray, List.set_cons_zero, List.set_cons_succ])
          clear hHeld
          refine wpAnyH_ready (rs := [20]) (by kernel_rfl) (by simp) ?_
          refine AllReadyH.cons rfl (fun K hK => ?_) AllReadyH.nil
          go_simp
          refine (pick_any (w.heap.size + 1) (((((((0 + 1000) + 2) + 2) + 2) + 2) + 2) + 2) (M2) _ C_144 (by omega) (by omega) (by omega)).mono ?_
          rintro e wq146 ⟨x146, rfl, hx146, hc, hg⟩
          have C_146 := hc
          have Bx_146 := Bx_144.mark hg (fun z hz => by cases hz; omega)
          have Br_146 := Br_144.mark hg (fun z hz => by cases hz; omega)
          have O_146 := O_144.mark hg (fun z z' hz hz' => by cases hz; exact fun e => hne1 z' hz' e.symm)
          have HH_146 := HH_144.trans (grown_below (B := w.heap.size) hg (by omega) HH_144.size)
          have Lit11_146 := Lit11_144.mark hg (fun z hz => by cases hz; omega)
          have Lit22_146 := Lit22_144.mark hg (fun z hz => by cases hz; omega)
          clear hc hg
          refine hK.out _ _ (by exact ⟨Bx_146.cell 0, Bx_146.cell 1, Bx_146.cell 2⟩) (fun hHeld => ?_)
          clear hK K
          (try simp only [Act.put, List.getElem_toArray, List.getElem_cons_zero, List.getElem_cons_succ, List.setIfInBounds_toArray, List.set_cons_zero, List.set_cons_succ])
          clear hHeld
          refine wpAnyH_ready (rs := [23]) (by kernel_rfl) (by simp) ?_
          refine AllReadyH.cons rfl (fun K hK => ?_) AllReadyH.nil
          go_simp
          refine (among_any (w.heap.size + 1) ((((((((0 + 1000) + 2) + 2) + 2) + 2) + 2) + 2) + 2) q144 0 5 5 _ [1, 1, 1, 2, 0] _ C_146 (by omega) (lit_rd2 (xs := [1, 1, 1, 2, 0]) Lit22_146 (I64.lit (by decide)) (by decide)) (by omega) (by omega) (by omega)).mono ?_
          rintro e wq147 ⟨x147, rfl, _, hc, hg⟩
          have C_147 := hc
          have Bx_147 := Bx_146.mark hg (fun z hz => by cases hz; omega)
          have Br_147 := Br_146.mark hg (fun z hz => by cases hz; omega)
          have O_147 := O_146.mark hg (fun z z' hz hz' => by cases hz; exact fun e => hne1 z' hz' e.symm)
          have HH_147 := HH_146.trans (grown_below (B := w.heap.size) hg (by omega) HH_146.size)
          have Lit11_147 := Lit11_146.mark hg (fun z hz => by cases hz; omega)
          have Lit22_147 := Lit22_146.mark hg (fun z hz => by cases hz; omega)
          clear hc hg
          refine hK.out _ _ (by exact ⟨Bx_147.cell 0, Bx_147.cell 1, Bx_147.cell 2⟩) (fun hHeld => ?_)
          clear hK K
          (try simp only [Act.put, List.getElem_toArray, List.getElem_cons_zero, List.getElem_cons_succ, List.setIfInBounds_toArray, List.set_cons_zero, List.set_cons_succ])
          refine wpAnyH_take (i := 24) (v := ?_) rfl (by kernel_rfl) (by kernel_rfl) (by kernel_rfl) (fun _ _ _ h => h) (Or.inl ⟨by rfl, ?_⟩) (by assumption) ?_
          rotate_left
          · intro w hSw; (try dsimp only at hSw); go_simp; (try with_reducible rfl)
          (try simp only [Act.put, List.getElem_toArray, List.getElem_cons_zero, List.getElem_cons_succ, List.setIfInBounds_toArray, List.set_cons_zero, List.set_cons_succ])
          clear hHeld
          refine wpAnyH_ready (rs := [25]) (by kernel_rfl) (by simp) ?_
          refine AllReadyH.cons rfl (fun K hK => ?_) AllReadyH.nil
          have g0_148 := Br_147.cell 0
          have g1_148 := Br_147.cell 1
          have g2_148 := Br_147.cell 2
          have z0_148 := Br_147.frozen 0
          have z1_148 := Br_147.frozen 1
          have z2_148 := Br_147.frozen 2
          have F_148 := fin3 (p := w.heap.size) (a := .int .i64 W) (b := .int .i64 H) (c := .slice A1 xs.length c1) O_147 (row_ne' O_147.1 Br_147 (by decide)) HH_147 (Nat.le_refl _)
          have Bx_148 := Bx_147.far3' (p := w.heap.size) (a := .int .i64 W) (b := .int .i64 H) (c := .slice A1 xs.length c1) (by omega)
          have Br_148 := Br_147.put3' (.int .i64 W) (.int .i64 H) (.slice A1 xs.length c1)
          go_simp
          refine hK.out _ _ (by exact ⟨Bx_148.cell 0, Bx_148.cell 1, Bx_148.cell 2⟩) (fun hHeld => ?_)
          clear hK K
          (try simp only [Act.put, List.getElem_toArray, List.getElem_cons_zero, List.getElem_cons_succ, List.setIfInBounds_toArray, List.set_cons_zero, List.set_cons_succ])
          refine wpAnyH_take (i := 26) (v := ?_) rfl (by kernel_rfl) (by kernel_rfl) (by kernel_rfl) (fun _ _ _ h => h) (Or.inl ⟨by rfl, ?_⟩) (by assumption) ?_
          rotate_left
          · intro w hSw; (try dsimp only at hSw); go_simp; (try with_reducible rfl)
          (try simp only [Act.put, List.getElem_toArray, List.getElem_cons_zero, List.getElem_cons_succ, List.setIfInBounds_toArray, List.set_cons_zero, List.set_cons_succ])
          refine wpAnyH_take (i := 27) (v := ?_) rfl (by kernel_rfl) (by kernel_rfl) (by kernel_rfl) (fun _ _ _ h => h) (Or.inl ⟨by rfl, ?_⟩) (by assumption) ?_
          rotate_left
          · intro w hSw; (try dsimp only at hSw); go_simp; (try with_reducible rfl)
          (try simp only [Act.put, List.getElem_toArray, List.getElem_cons_zero, List.getElem_cons_succ, List.setIfInBounds_toArray, List.set_cons_zero, List.set_cons_succ])
          refine wpAnyH_take (i := 28) (v := ?_) rfl (by kernel_rfl) (by kernel_rfl) (by kernel_rfl) (fun _ _ _ h => h) (Or.inl ⟨by rfl, ?_⟩) (by assumption) ?_
          rotate_left
          · intro w hSw; (try dsimp only at hSw); go_simp; (try with_reducible rfl)
          (try simp only [Act.put, List.getElem_toArray, List.getElem_cons_zero, List.getElem_cons_succ, List.setIfInBounds_toArray, List.set_cons_zero, List.set_cons_succ])
          refine wpAnyH_take (i := 29) (v := ?_) rfl (by kernel_rfl) (by kernel_rfl) (by kernel_rfl) (fun _ _ _ h => h) (Or.inl ⟨by rfl, ?_⟩) (by assumption) ?_
          rotate_left
          · intro w hSw; (try dsimp only at hSw); go_simp; (try with_reducible rfl)
          (try simp only [Act.put, List.getElem_toArray, List.getElem_cons_zero, List.getElem_cons_succ, List.setIfInBounds_toArray, List.set_cons_zero, List.set_cons_succ])
          refine wpAnyH_done (by kernel_rfl) ?_ _
          refine NoPanic.normal ?_
          have g0 := Br_148.cell 0
          have g1 := Br_148.cell 1
          have g2 := Br_148.cell 2
          have F := F_148
          go_wp2
          exact bodyPost_ret (v := .tuple #[chartV W H (.slice A1 xs.length c1), .int .i64 row, .int .i64 col, .int .i64 (IntKind.i64.wrap (x133 + x134)), .int .i64 (IntKind.i64.wrap (x146 + x147))]) (by simp [results, Try.results5, go_sem, g0, g1, g2]) rfl ⟨W, H, A1, c1, xs, _, _, _, _, rfl, hsm, ⟨by omega, by omega⟩, ⟨by omega, by omega⟩, wrap_i64 _, wrap_i64 _, F.1, F.2⟩
        refine AllReadyH.cons rfl (fun K hK => ?_) AllReadyH.nil
        go_simp
        have hal149 := (Below.refl (wq133).heap.size (wq133)).alloc (Nat.le_refl _) (.cells #[.int .i64 1, .int .i64 1, .int .i64 1, .int .i64 2, .int .i64 0] 3)
        have C_149 := C_133.all hal149
        have Bx_149 := Bx_133.all hal149
        have Br_149 := Br_133.all hal149
        have O_149 := O_133.all hal149
        have HH_149 := HH_133.alloc HH_133.size (.cells #[.int .i64 1, .int .i64 1, .int .i64 1, .int .i64 2, .int .i64 0] 3)
        have Lit11_149 := Lit11_133.all hal149
        have Lit22_149 : Blk _ (wq133.heap.size) _ _ := Blk.new (wq133) #[.int .i64 1, .int .i64 1, .int .i64 1, .int .i64 2, .int .i64 0] 3
        obtain ⟨q149, hq149⟩ : ∃ q, wq133.heap.size = q := ⟨_, rfl⟩
        rw [hq149] at Lit22_149 ⊢
        obtain ⟨wq149, hw149⟩ : ∃ v, (wq133).alloc (.cells #[.int .i64 1, .int .i64 1, .int .i64 1, .int .i64 2, .int .i64 0] 3) = v := ⟨_, rfl⟩
        rw [hw149] at C_149 Bx_149 Br_149 O_149 HH_149 Lit11_149 Lit22_149 ⊢
        have hqp149 : q149 ≠ (w.heap.size + 1) := by have := C_133.lt; omega
        clear hal149 hw149 hq149
        refine hK.out _ _ (by exact ⟨Bx_149.cell 0, Bx_149.cell 1, Bx_149.cell 2⟩) (fun hHeld => ?_)
        clear hK K
        (try simp only [Act.put, List.getElem_toArray, List.getElem_cons_zero, List.getElem_cons_succ, List.setIfInBounds_toArray, List.set_cons_zero, List.set_cons_succ])
        clear hHeld
        refine wpAnyH_ready (rs := [12]) (by kernel_rfl) (by simp) ?_
        refine AllReadyH.cons rfl (fun K hK => ?_) AllReadyH.nil
        go_simp
        refine (among_any (w.heap.size + 1) ((((((0 + 1000) + 2) + 2) + 2) + 2) + 2) q132 0 5 5 _ [1, 1, 1, 2, 0] _ C_149 (by omega) (lit_rd2 (xs := [1, 1, 1, 2, 0]) Lit11_149 (I64.lit (by decide)) (by decide)) (by omega) (by omega) (by omega)).mono ?_
        rintro e wq150 ⟨x150, rfl, _, hc, hg⟩
        have C_150 := hc
        have Bx_150 := Bx_149.mark hg (fun z hz => by cases hz; omega)
        have Br_150 := Br_149.mark hg (fun z hz => by cases hz; omega)
        have O_150 := O_149.mark hg (fun z z' hz hz' => by cases hz; exact fun e => hne1 z' hz' e.symm)
        have HH_150 := HH_149.trans (grown_below (B := w.heap.size) hg (by omega) HH_149.size)
        have Lit11_150 := Lit11_149.mark hg (fun z hz => by cases hz; omega)
        have Lit22_150 := Lit22_149.mark hg (fun z hz => by cases hz; omega)
        clear hc hg
        refine hK.out _ _ (by exact ⟨Bx_150.cell 0, Bx_150.cell 1, Bx_150.cell 2⟩) (fun hHeld => ?_)
        clear hK K
        (try simp only [Act.put, List.getElem_toArray, List.getElem_cons_zero, List.getElem_cons_succ, List.setIfInBounds_toArray, List.set_cons_zero, List.set_cons_succ])
        refine wpAnyH_take (i := 13) (v := ?_) rfl (by kernel_rfl) (by kernel_rfl) (by kernel_rfl) (fun _ _ _ h => h) (Or.inl ⟨by rfl, ?_⟩) (by assumption) ?_
        rotate_left
        · intro w hSw; (try dsimp only at hSw); go_simp; (try with_reducible rfl)
        (try simp only [Act.put, List.getElem_toArray, List.getElem_cons_zero, List.getElem_cons_succ, List.setIfInBounds_toArray, List.set_cons_zero, List.set_cons_succ])
        clear hHeld
        refine wpAnyH_ready (rs := [19]) (by kernel_rfl) (by simp) ?_
        refine AllReadyH.cons rfl (fun K hK => ?_) AllReadyH.nil
        go_simp
        refine (l1Most_v 1 (W - col) M2 _ KM2.out).mono ?_
        rintro e wq151 ⟨rfl, rfl⟩
        refine hK.out _ _ (by exact ⟨Bx_150.cell 0, Bx_150.cell 1, Bx_150.cell 2⟩) (fun hHeld => ?_)
        clear hK K
        (try simp only [Act.put, List.getElem_toArray, List.getElem_cons_zero, List.getElem_cons_succ, List.setIfInBounds_toArray, List.set_cons_zero, List.set_cons_succ])
        clear hHeld
        refine wpAnyH_ready (rs := [20]) (by kernel_rfl) (by simp) ?_
        refine AllReadyH.cons rfl (fun K hK => ?_) AllReadyH.nil
        go_simp
        refine (pick_any (w.heap.size + 1) (((((((0 + 1000) + 2) + 2) + 2) + 2) + 2) + 2) (M2) _ C_150 (by omega) (by omega) (by omega)).mono ?_
        rintro e wq152 ⟨x152, rfl, hx152, hc, hg⟩
        have C_152 := hc
        have Bx_152 := Bx_150.mark hg (fun z hz => by cases hz; omega)
        have Br_152 := Br_150.mark hg (fun z hz => by cases hz; omega)
        have O_152 := O_150.mark hg (fun z z' hz hz' => by cases hz; exact fun e => hne1 z' hz' e.symm)
        have HH_152 := HH_150.trans (grown_below (B := w.heap.size) hg (by omega) HH_150.size)
        have Lit11_152 := Lit11_150.mark hg (fun z hz => by cases hz; omega)
        have Lit22_152 := Lit22_150.mark hg (fun z hz => by cases hz; omega)
        clear hc hg
        refine hK.out _ _ (by exact ⟨Bx_152.cell 0, Bx_152.cell 1, Bx_152.cell 2⟩) (fun hHeld => ?_)
        clear hK K
        (try simp only [Act.put, List.getElem_toArray, List.getElem_cons_zero, List.getElem_cons_succ, List.setIfInBounds_toArray, List.set_cons_zero, List.set_cons_succ])
        clear hHeld
        refine wpAnyH_ready (rs := [23]) (by kernel_rfl) (by simp) ?_
        refine AllReadyH.cons rfl (fun K hK => ?_) AllReadyH.nil
        go_simp
        refine (among_any (w.heap.size + 1) ((((((((0 + 1000) + 2) + 2) + 2) + 2) + 2) + 2) + 2) q149 0 5 5 _ [1, 1, 1, 2, 0] _ C_152 (by omega) (lit_rd2 (xs := [1, 1, 1, 2, 0]) Lit22_152 (I64.lit (by decide)) (by decide)) (by omega) (by omega) (by omega)).mono ?_
        rintro e wq153 ⟨x153, rfl, _, hc, hg⟩
        have C_153 := hc
        have Bx_153 := Bx_152.mark hg (fun z hz => by cases hz; omega)
        have Br_153 := Br_152.mark hg (fun z hz => by cases hz; omega)
        have O_153 := O_152.mark hg (fun z z' hz hz' => by cases hz; exact fun e => hne1 z' hz' e.symm)
        have HH_153 := HH_152.trans (grown_below (B := w.heap.size) hg (by omega) HH_152.size)
        have Lit11_153 := Lit11_152.mark hg (fun z hz => by cases hz; omega)
        have Lit22_153 := Lit22_152.mark hg (fun z hz => by cases hz; omega)
        clear hc hg
        refine hK.out _ _ (by exact ⟨Bx_153.cell 0, Bx_153.cell 1, Bx_153.cell 2⟩) (fun hHeld => ?_)
        clear hK K
        (try simp only [Act.put, List.getElem_toArray, List.getElem_cons_zero, List.getElem_cons_succ, List.setIfInBounds_toArray, List.set_cons_zero, List.set_cons_succ])
        refine wpAnyH_take (i := 24) (v := ?_) rfl (by kernel_rfl) (by kernel_rfl) (by kernel_rfl) (fun _ _ _ h => h) (Or.inl ⟨by rfl, ?_⟩) (by assumption) ?_
        rotate_left
        · intro w hSw; (try dsimp only at hSw); go_simp; (try with_reducible rfl)
        (try simp only [Act.put, List.getElem_toArray, List.getElem_cons_zero, List.getElem_cons_succ, List.setIfInBounds_toArray, List.set_cons_zero, List.set_cons_succ])
        clear hHeld
        refine wpAnyH_ready (rs := [25]) (by kernel_rfl) (by simp) ?_
        refine AllReadyH.cons rfl (fun K hK => ?_) AllReadyH.nil
        have g0_154 := Br_153.cell 0
        have g1_154 := Br_153.cell 1
        have g2_154 := Br_153.cell 2
        have z0_154 := Br_153.frozen 0
        have z1_154 := Br_153.frozen 1
        have z2_154 := Br_153.frozen 2
        have F_154 := fin3 (p := w.heap.size) (a := .int .i64 W) (b := .int .i64 H) (c := .slice A1 xs.length c1) O_153 (row_ne' O_153.1 Br_153 (by decide)) HH_153 (Nat.le_refl _)
        have Bx_154 := Bx_153.far3' (p := w.heap.size) (a := .int .i64 W) (b := .int .i64 H) (c := .slice A1 xs.length c1) (by omega)
        have Br_154 := Br_153.put3' (.int .i64 W) (.int .i64 H) (.slice A1 xs.length c1)
        go_simp
        refine hK.out _ _ (by exact ⟨Bx_154.cell 0, Bx_154.cell 1, Bx_154.cell 2⟩) (fun hHeld => ?_)
        clear hK K
        (try simp only [Act.put, List.getElem_toArray, List.getElem_cons_zero, List.getElem_cons_succ, List.setIfInBounds_toArray, List.set_cons_zero, List.set_cons_succ])
        refine wpAnyH_take (i := 26) (v := ?_) rfl (by kernel_rfl) (by kernel_rfl) (by kernel_rfl) (fun _ _ _ h => h) (Or.inl ⟨by rfl, ?_⟩) (by assumption) ?_
        rotate_left
        · intro w hSw; (try dsimp only at hSw); go_simp; (try with_reducible rfl)
        (try simp only [Act.put, List.getElem_toArray, List.getElem_cons_zero, List.getElem_cons_succ, List.setIfInBounds_toArray, List.set_cons_zero, List.set_cons_succ])
        refine wpAnyH_take (i := 27) (v := ?_) rfl (by kernel_rfl) (by kernel_rfl) (by kernel_rfl) (fun _ _ _ h => h) (Or.inl ⟨by rfl, ?_⟩) (by assumption) ?_
        rotate_left
        · intro w hSw; (try dsimp only at hSw); go_simp; (try with_reducible rfl)
        (try simp only [Act.put, List.getElem_toArray, List.getElem_cons_zero, List.getElem_cons_succ, List.setIfInBounds_toArray, List.set_cons_zero, List.set_cons_succ])
        refine wpAnyH_take (i := 28) (v := ?_) rfl (by kernel_rfl) (by kernel_rfl) (by kernel_rfl) (fun _ _ _ h => h) (Or.inl ⟨by rfl, ?_⟩) (by assumption) ?_
        rotate_left
        · intro w hSw; (try dsimp only at hSw); go_simp; (try with_reducible rfl)
        (try simp only [Act.put, List.getElem_toArray, List.getElem_cons_zero, List.getElem_cons_succ, List.setIfInBounds_toArray, List.set_cons_zero, List.set_cons_succ])
        refine wpAnyH_take (i := 29) (v := ?_) rfl (by kernel_rfl) (by kernel_rfl) (by kernel_rfl) (fun _ _ _ h => h) (Or.inl ⟨by rfl, ?_⟩) (by assumption) ?_
        rotate_left
        · intro w hSw; (try dsimp only at hSw); go_simp; (try with_reducible rfl)
        (try simp only [Act.put, List.getElem_toArray, List.getElem_cons_zero, List.getElem_cons_succ, List.setIfInBounds_toArray, List.set_cons_zero, List.set_cons_succ])
        refine wpAnyH_done (by kernel_rfl) ?_ _
        refine NoPanic.normal ?_
        have g0 := Br_154.cell 0
        have g1 := Br_154.cell 1
        have g2 := Br_154.cell 2
        have F := F_154
        go_wp2
        exact bodyPost_ret (v := .tuple #[chartV W H (.slice A1 xs.length c1), .int .i64 row, .int .i64 col, .int .i64 (IntKind.i64.wrap (x133 + x150)), .int .i64 (IntKind.i64.wrap (x152 + x153))]) (by simp [results, Try.results5, go_sem, g0, g1, g2]) rfl ⟨W, H, A1, c1, xs, _, _, _, _, rfl, hsm, ⟨by omega, by omega⟩, ⟨by omega, by omega⟩, wrap_i64 _, wrap_i64 _, F.1, F.2⟩
      refine AllReadyH.cons rfl (fun K hK => ?_) AllReadyH.nil
      go_simp
      have hal155 := (Below.refl (wq132).heap.size (wq132)).alloc (Nat.le_refl _) (.cells #[.int .i64 1, .int .i64 1, .int .i64 1, .int .i64 2, .int .i64 0] 3)
      have C_155 := C_132.all hal155
      have Bx_155 := Bx_132.all hal155
      have Br_155 := Br_132.all hal155
      have O_155 := O_132.all hal155
      have HH_155 := HH_132.alloc HH_132.size (.cells #[.int .i64 1, .int .i64 1, .int .i64 1, .int .i64 2, .int .i64 0] 3)
      have Lit11_155 := Lit11_132.all hal155
      have Lit22_155 : Blk _ (wq132.heap.size) _ _ := Blk.new (wq132) #[.int .i64 1, .int .i64 1, .int .i64 1, .int .i64 2, .int .i64 0] 3
      obtain ⟨q155, hq155⟩ : ∃ q, wq132.heap.size = q := ⟨_, rfl⟩
      rw [hq155] at Lit22_155 ⊢
      obtain ⟨wq155, hw155⟩ : ∃ v, (wq132).alloc (.cells #[.int .i64 1, .int .i64 1, .int .i64 1, .int .i64 2, .int .i64 0] 3) = v := ⟨_, rfl⟩
      rw [hw155] at C_155 Bx_155 Br_155 O_155 HH_155 Lit11_155 Lit22_155 ⊢
      have hqp155 : q155 ≠ (w.heap.size + 1) := by have := C_132.lt; omega
      clear hal155 hw155 hq155
      refine hK.out _ _ (by exact ⟨Bx_155.cell 0, Bx_155.cell 1, Bx_155.cell 2⟩) (fun hHeld => ?_)
      clear hK K
      (try simp only [Act.put, List.getElem_toArray, List.getElem_cons_zero, List.getElem_cons_succ, List.setIfInBounds_toArray, List.set_cons_zero, List.set_cons_succ])
      clear hHeld
      refine wpAnyH_ready (rs := [9]) (by kernel_rfl) (by simp) ?_
      refine AllReadyH.cons rfl (fun K hK => ?_) AllReadyH.nil
      go_simp
      refine (pick_any (w.heap.size + 1) (((((0 + 1000) + 2) + 2) + 2) + 2) (M1) _ C_155 (by omega) (by omega) (by omega)).mono ?_
      rintro e wq156 ⟨x156, rfl, hx156, hc, hg⟩
      have C_156 := hc
      have Bx_156 := Bx_155.mark hg (fun z hz => by cases hz; omega)
      have Br_156 := Br_155.mark hg (fun z hz => by cases hz; omega)
      have O_156 := O_155.mark hg (fun z z' hz hz' => by cases hz; exact fun e => hne1 z' hz' e.symm)
      have HH_156 := HH_155.trans (grown_below (B := w.heap.size) hg (by omega) HH_155.size)
      have Lit11_156 := Lit11_155.mark hg (fun z hz => by cases hz; omega)
      have Lit22_156 := Lit22_155.mark hg (fun z hz => by cases hz; omega)
      clear hc hg
      refine hK.out _ _ (by exact ⟨Bx_156.cell 0, Bx_156.cell 1, Bx_156.cell 2⟩) (fun hHeld => ?_)
      clear hK K
      (try simp only [Act.put, List.getElem_toArray, List.getElem_cons_zero, List.getElem_cons_succ, List.setIfInBounds_toArray, List.set_cons_zero, List.set_cons_succ])
      clear hHeld
      refine wpAnyH_ready (rs := [12]) (by kernel_rfl) (by simp) ?_
      refine AllReadyH.cons rfl (fun K hK => ?_) AllReadyH.nil
      go_simp
      refine (among_any (w.heap.size + 1) ((((((0 + 1000) + 2) + 2) + 2) + 2) + 2) q132 0 5 5 _ [1, 1, 1, 2, 0] _ C_156 (by omega) (lit_rd2 (xs := [1, 1, 1, 2, 0]) Lit11_156 (I64.lit (by decide)) (by decide)) (by omega) (by omega) (by omega)).mono ?_
      rintro e wq157 ⟨x157, rfl, _, hc, hg⟩
      have C_157 := hc
      have Bx_157 := Bx_156.mark hg (fun z hz => by cases hz; omega)
      have Br_157 := Br_156.mark hg (fun z hz => by cases hz; omega)
      have O_157 := O_156.mark hg (fun z z' hz hz' => by cases hz; exact fun e => hne1 z' hz' e.symm)
      have HH_157 := HH_156.trans (grown_below (B := w.heap.size) hg (by omega) HH_156.size)
      have Lit11_157 := Lit11_156.mark hg (fun z hz => by cases hz; omega)
      have Lit22_157 := Lit22_156.mark hg (fun z hz => by cases hz; omega)
      clear hc hg
      refine hK.out _ _ (by exact ⟨Bx_157.cell 0, Bx_157.cell 1, Bx_157.cell 2⟩) (fun hHeld => ?_)
      clear hK K
      (try simp only [Act.put, List.getElem_toArray, List.getElem_cons_zero, List.getElem_cons_succ, List.setIfInBounds_toArray, List.set_cons_zero, List.set_cons_succ])
      refine wpAnyH_take (i := 13) (v := ?_) rfl (by kernel_rfl) (by kernel_rfl) (by kernel_rfl) (fun _ _ _ h => h) (Or.inl ⟨by rfl, ?_⟩) (by assumption) ?_
      rotate_left
      · intro w hSw; (try dsimp only at hSw); go_simp; (try with_reducible rfl)
      (try simp only [Act.put, List.getElem_toArray, List.getElem_cons_zero, List.getElem_cons_succ, List.setIfInBounds_toArray, List.set_cons_zero, List.set_cons_succ])
      clear hHeld
      refine wpAnyH_ready (rs := [19]) (by kernel_rfl) (by simp) ?_
      refine AllReadyH.cons rfl (fun K hK => ?_) AllReadyH.nil
      go_simp
      refine (l1Most_v 1 (W - col) M2 _ KM2.out).mono ?_
      rintro e wq158 ⟨rfl, rfl⟩
      refine hK.out _ _ (by exact ⟨Bx_157.cell 0, Bx_157.cell 1, Bx_157.cell 2⟩) (fun hHeld => ?_)
      clear hK K
      (try simp only [Act.put, List.getElem_toArray, List.getElem_cons_zero, List.getElem_cons_succ, List.setIfInBounds_toArray, List.set_cons_zero, List.set_cons_succ])
      clear hHeld
      refine wpAnyH_ready (rs := [20]) (by kernel_rfl) (by simp) ?_
      refine AllReadyH.cons rfl (fun K hK => ?_) AllReadyH.nil
      go_simp
      refine (pick_any (w.heap.size + 1) (((((((0 + 1000) + 2) + 2) + 2) + 2) + 2) + 2) (M2) _ C_157 (by omega) (by omega) (by omega)).mono ?_
      rintro e wq159 ⟨x159, rfl, hx159, hc, hg⟩
      have C_159 := hc
      have Bx_159 := Bx_157.mark hg (fun z hz => by cases hz; omega)
      have Br_159 := Br_157.mark hg (fun z hz => by cases hz; omega)
      have O_159 := O_157.mark hg (fun z z' hz hz' => by cases hz; exact fun e => hne1 z' hz' e.symm)
      have HH_159 := HH_157.trans (grown_below (B := w.heap.size) hg (by omega) HH_157.size)
      have Lit11_159 := Lit11_157.mark hg (fun z hz => by cases hz; omega)
      have Lit22_159 := Lit22_157.mark hg (fun z hz => by cases hz; omega)
      clear hc hg
      refine hK.out _ _ (by exact ⟨Bx_159.cell 0, Bx_159.cell 1, Bx_159.cell 2⟩) (fun hHeld => ?_)
      clear hK K
      (try simp only [Act.put, List.getElem_toArray, List.getElem_cons_zero, List.getElem_cons_succ, List.setIfInBounds_toArray, List.set_cons_zero, List.set_cons_succ])
      clear hHeld
      refine wpAnyH_ready (rs := [23]) (by kernel_rfl) (by simp) ?_
      refine AllReadyH.cons rfl (fun K hK => ?_) AllReadyH.nil
      go_simp
      refine (among_any (w.heap.size + 1) ((((((((0 + 1000) + 2) + 2) + 2) + 2) + 2) + 2) + 2) q155 0 5 5 _ [1, 1, 1, 2, 0] _ C_159 (by omega) (lit_rd2 (xs := [1, 1, 1, 2, 0]) Lit22_159 (I64.lit (by decide)) (by decide)) (by omega) (by omega) (by omega)).mono ?_
      rintro e wq160 ⟨x160, rfl, _, hc, hg⟩
      have C_160 := hc
      have Bx_160 := Bx_159.mark hg (fun z hz => by cases hz; omega)
      have Br_160 := Br_159.mark hg (fun z hz => by cases hz; omega)
      have O_160 := O_159.mark hg (fun z z' hz hz' => by cases hz; exact fun e => hne1 z' hz' e.symm)
      have HH_160 := HH_159.trans (grown_below (B := w.heap.size) hg (by omega) HH_159.size)
      have Lit11_160 := Lit11_159.mark hg (fun z hz => by cases hz; omega)
      have Lit22_160 := Lit22_159.mark hg (fun z hz => by cases hz; omega)
      clear hc hg
      refine hK.out _ _ (by exact ⟨Bx_160.cell 0, Bx_160.cell 1, Bx_160.cell 2⟩) (fun hHeld => ?_)
      clear hK K
      (try simp only [Act.put, List.getElem_toArray, List.getElem_cons_zero, List.getElem_cons_succ, List.setIfInBounds_toArray, List.set_cons_zero, List.set_cons_succ])
      refine wpAnyH_take (i := 24) (v := ?_) rfl (by kernel_rfl) (by kernel_rfl) (by kernel_rfl) (fun _ _ _ h => h) (Or.inl ⟨by rfl, ?_⟩) (by assumption) ?_
      rotate_left
      · intro w hSw; (try dsimp only at hSw); go_simp; (try with_reducible rfl)
      (try simp only [Act.put, List.getElem_toArray, List.getElem_cons_zero, List.getElem_cons_succ, List.setIfInBounds_toArray, List.set_cons_zero, List.set_cons_succ])
      clear hHeld
      refine wpAnyH_ready (rs := [25]) (by kernel_rfl) (by simp) ?_
      refine AllReadyH.cons rfl (fun K hK => ?_) AllReadyH.nil
      have g0_161 := Br_160.cell 0
      have g1_161 := Br_160.cell 1
      have g2_161 := Br_160.cell 2
      have z0_161 := Br_160.frozen 0
      have z1_161 := Br_160.frozen 1
      have z2_161 := Br_160.frozen 2
      have F_161 := fin3 (p := w.heap.size) (a := .int .i64 W) (b := .int .i64 H) (c := .slice A1 xs.length c1) O_160 (row_ne' O_160.1 Br_160 (by decide)) HH_160 (Nat.le_refl _)
      have Bx_161 := Bx_160.far3' (p := w.heap.size) (a := .int .i64 W) (b := .int .i64 H) (c := .slice A1 xs.length c1) (by omega)
      have Br_161 := Br_160.put3' (.int .i64 W) (.int .i64 H) (.slice A1 xs.length c1)
      go_simp
      refine hK.out _ _ (by exact ⟨Bx_161.cell 0, Bx_161.cell 1, Bx_161.cell 2⟩) (fun hHeld => ?_)
      clear hK K
      (try simp only [Act.put, List.getElem_toArray, List.getElem_cons_zero, List.getElem_cons_succ, List.setIfInBounds_toArray, List.set_cons_zero, List.set_cons_succ])
      refine wpAnyH_take (i := 26) (v := ?_) rfl (by kernel_rfl) (by kernel_rfl) (by kernel_rfl) (fun _ _ _ h => h) (Or.inl ⟨by rfl, ?_⟩) (by assumption) ?_
      rotate_left
      · intro w hSw; (try dsimp only at hSw); go_simp; (try with_reducible rfl)
      (try simp only [Act.put, List.getElem_toArray, List.getElem_cons_zero, List.getElem_cons_succ, List.setIfInBounds_toArray, List.set_cons_zero, List.set_cons_succ])
      refine wpAnyH_take (i := 27) (v := ?_) rfl (by kernel_rfl) (by kernel_rfl) (by kernel_rfl) (fun _ _ _ h => h) (Or.inl ⟨by rfl, ?_⟩) (by assumption) ?_
      rotate_left
      · intro w hSw; (try dsimp only at hSw); go_simp; (try with_reducible rfl)
      (try simp only [Act.put, List.getElem_toArray, List.getElem_cons_zero, List.getElem_cons_succ, List.setIfInBounds_toArray, List.set_cons_zero, List.set_cons_succ])
      refine wpAnyH_take (i := 28) (v := ?_) rfl (by kernel_rfl) (by kernel_rfl) (by kernel_rfl) (fun _ _ _ h => h) (Or.inl ⟨by rfl, ?_⟩) (by assumption) ?_
      rotate_left
      · intro w hSw; (try dsimp only at hSw); go_simp; (try with_reducible rfl)
      (try simp only [Act.put, List.getElem_toArray, List.getElem_cons_zero, List.getElem_cons_succ, List.setIfInBounds_toArray, List.set_cons_zero, List.set_cons_succ])
      refine wpAnyH_take (i := 29) (v := ?_) rfl (by kernel_rfl) (by kernel_rfl) (by kernel_rfl) (fun _ _ _ h => h) (Or.inl ⟨by rfl, ?_⟩) (by assumption) ?_
      rotate_left
      · intro w hSw; (try dsimp only at hSw); go_simp; (try with_reducible rfl)
      (try simp only [Act.put, List.getElem_toArray, List.getElem_cons_zero, List.getElem_cons_succ, List.setIfInBounds_toArray, List.set_cons_zero, List.set_cons_succ])
      refine wpAnyH_done (by kernel_rfl) ?_ _
      refine NoPanic.normal ?_
      have g0 := Br_161.cell 0
      have g1 := Br_161.cell 1
      have g2 := Br_161.cell 2
      have F := F_161
      go_wp2
      exact bodyPost_ret (v := .tuple #[chartV W H (.slice A1 xs.length c1), .int .i64 row, .int .i64 col, .int .i64 (IntKind.i64.wrap (x156 + x157)), .int .i64 (IntKind.i64.wrap (x159 + x160))]) (by simp [results, Try.results5, go_sem, g0, g1, g2]) rfl ⟨W, H, A1, c1, xs, _, _, _, _, rfl, hsm, ⟨by omega, by omega⟩, ⟨by omega, by omega⟩, wrap_i64 _, wrap_i64 _, F.1, F.2⟩
    refine AllReadyH.cons rfl (fun K hK => ?_) AllReadyH.nil
    go_simp
    have hal162 := (Below.refl (wd100).heap.size (wd100)).alloc (Nat.le_refl _) (.cells #[.int .i64 1, .int .i64 1, .int .i64 1, .int .i64 2, .int .i64 0] 3)
    have C_162 := C_0.all hal162
    have Bx_162 := Bx_0.all hal162
    have Br_162 := Br_0.all hal162
    have O_162 := O_0.all hal162
    have HH_162 := HH_0.alloc HH_0.size (.cells #[.int .i64 1, .int .i64 1, .int .i64 1, .int .i64 2, .int .i64 0] 3)
    have Lit22_162 : Blk _ (wd100.heap.size) _ _ := Blk.new (wd100) #[.int .i64 1, .int .i64 1, .int .i64 1, .int .i64 2, .int .i64 0] 3
    obtain ⟨q162, hq162⟩ : ∃ q, wd100.heap.size = q := ⟨_, rfl⟩
    rw [hq162] at Lit22_162 ⊢
    obtain ⟨wq162, hw162⟩ : ∃ v, (wd100).alloc (.cells #[.int .i64 1, .int .i64 1, .int .i64 1, .int .i64 2, .int .i64 0] 3) = v := ⟨_, rfl⟩
    rw [hw162] at C_162 Bx_162 Br_162 O_162 HH_162 Lit22_162 ⊢
    have hqp162 : q162 ≠ (w.heap.size + 1) := by have := C_0.lt; omega
    clear hal162 hw162 hq162
    refine hK.out _ _ (by exact ⟨Bx_162.cell 0, Bx_162.cell 1, Bx_162.cell 2⟩) (fun hHeld => ?_)
    clear hK K
    (try simp only [Act.put, List.getElem_toArray, List.getElem_cons_zero, List.getElem_cons_succ, List.setIfInBounds_toArray, List.set_cons_zero, List.set_cons_succ])
    clear hHeld
    refine wpAnyH_ready (rs := [9, 11]) (by kernel_rfl) (by simp) ?_
    refine AllReadyH.cons rfl (fun K hK => ?_) ?_
    · skip
      go_simp
      refine (pick_any (w.heap.size + 1) (((((0 + 1000) + 2) + 2) + 2) + 2) (M1) _ C_162 (by omega) (by omega) (by omega)).mono ?_
      rintro e wq163 ⟨x163, rfl, hx163, hc, hg⟩
      have C_163 := hc
      have Bx_163 := Bx_162.mark hg (fun z hz => by cases hz; omega)
      have Br_163 := Br_162.mark hg (fun z hz => by cases hz; omega)
      have O_163 := O_162.mark hg (fun z z' hz hz' => by cases hz; exact fun e => hne1 z' hz' e.symm)
      have HH_163 := HH_162.trans (grown_below (B := w.heap.size) hg (by omega) HH_162.size)
      have Lit22_163 := Lit22_162.mark hg (fun z hz => by cases hz; omega)
      clear hc hg
      refine hK.out _ _ (by exact ⟨Bx_163.cell 0, Bx_163.cell 1, Bx_163.cell 2⟩) (fun hHeld => ?_)
      clear hK K
      (try simp only [Act.put, List.getElem_toArray, List.getElem_cons_zero, List.getElem_cons_succ, List.setIfInBounds_toArray, List.set_cons_zero, List.set_cons_succ])
      clear hHeld
      refine wpAnyH_ready (rs := [11]) (by kernel_rfl) (by simp) ?_
      refine AllReadyH.cons rfl (fun K hK => ?_) AllReadyH.nil
      go_simp
      have hal164 := (Below.refl (wq163).heap.size (wq163)).alloc (Nat.le_refl _) (.cells #[.int .i64 1, .int .i64 1, .int .i64 1, .int .i64 2, .int .i64 0] 3)
      have C_164 := C_163.all hal164
      have Bx_164 := Bx_163.all hal164
      have Br_164 := Br_163.all hal164
      have O_164 := O_163.all hal164
      have HH_164 := HH_163.alloc HH_163.size (.cells #[.int .i64 1, .int .i64 1, .int .i64 1, .int .i64 2, .int .i64 0] 3)
      have Lit22_164 := Lit22_163.all hal164
      have Lit11_164 : Blk _ (wq163.heap.size) _ _ := Blk.new (wq163) #[.int .i64 1, .int .i64 1, .int .i64 1, .int .i64 2, .int .i64 0] 3
      obtain ⟨q164, hq164⟩ : ∃ q, wq163.heap.size = q := ⟨_, rfl⟩
      rw [hq164] at Lit11_164 ⊢
      obtain ⟨wq164, hw164⟩ : ∃ v, (wq163).alloc (.cells #[.int .i64 1, .int .i64 1, .int .i64 1, .int .i64 2, .int .i64 0] 3) = v := ⟨_, rfl⟩
      rw [hw164] at C_164 Bx_164 Br_164 O_164 HH_164 Lit22_164 Lit11_164 ⊢
      have hqp164 : q164 ≠ (w.heap.size + 1) := by have := C_163.lt; omega
      clear hal164 hw164 hq164
      refine hK.out _ _ (by exact ⟨Bx_164.cell 0, Bx_164.cell 1, Bx_164.cell 2⟩) (fun hHeld => ?_)
      clear hK K
      (try simp only [Act.put, List.getElem_toArray, List.getElem_cons_zero, List.getElem_cons_succ, List.setIfInBounds_toArray, List.set_cons_zero, List.set_cons_succ])
      clear hHeld
      refine wpAnyH_ready (rs := [12]) (by kernel_rfl) (by simp) ?_
      refine AllReadyH.cons rfl (fun K hK => ?_) AllReadyH.nil
      go_simp
      refine (among_any (w.heap.size + 1) ((((((0 + 1000) + 2) + 2) + 2) + 2) + 2) q164 0 5 5 _ [1, 1, 1, 2, 0] _ C_164 (by omega) (lit_rd2 (xs := [1, 1, 1, 2, 0]) Lit11_164 (I64.lit (by decide)) (by decide)) (by omega) (by omega) (by omega)).mono ?_
      rintro e wq165 ⟨x165, rfl, _, hc, hg⟩
      have C_165 := hc
      have Bx_165 := Bx_164.mark hg (fun z hz => by cases hz; omega)
      have Br_165 := Br_164.mark hg (fun z hz => by cases hz; omega)
      have O_165 := O_164.mark hg (fun z z' hz hz' => by cases hz; exact fun e => hne1 z' hz' e.symm)
      have HH_165 := HH_164.trans (grown_below (B := w.heap.size) hg (by omega) HH_164.size)
      have Lit22_165 := Lit22_164.mark hg (fun z hz => by cases hz; omega)
      have Lit11_165 := Lit11_164.mark hg (fun z hz => by cases hz; omega)
      clear hc hg
      refine hK.out _ _ (by exact ⟨Bx_165.cell 0, Bx_165.cell 1, Bx_165.cell 2⟩) (fun hHeld => ?_)
      clear hK K
      (try simp only [Act.put, List.getElem_toArray, List.getElem_cons_zero, List.getElem_cons_succ, List.setIfInBounds_toArray, List.set_cons_zero, List.set_cons_succ])
      refine wpAnyH_take (i := 13) (v := ?_) rfl (by kernel_rfl) (by kernel_rfl) (by kernel_rfl) (fun _ _ _ h => h) (Or.inl ⟨by rfl, ?_⟩) (by assumption) ?_
      rotate_left
      · intro w hSw; (try dsimp only at hSw); go_simp; (try with_reducible rfl)
      (try simp only [Act.put, List.getElem_toArray, List.getElem_cons_zero, List.getElem_cons_succ, List.setIfInBounds_toArray, List.set_cons_zero, List.set_cons_succ])
      clear hHeld
      refine wpAnyH_ready (rs := [19]) (by kernel_rfl) (by simp) ?_
      refine AllReadyH.cons rfl (fun K hK => ?_) AllReadyH.nil
      go_simp
      refine (l1Most_v 1 (W - col) M2 _ KM2.out).mono ?_
      rintro e wq166 ⟨rfl, rfl⟩
      refine hK.out _ _ (by exact ⟨Bx_165.cell 0, Bx_165.cell 1, Bx_165.cell 2⟩) (fun hHeld => ?_)
      clear hK K
      (try simp only [Act.put, List.getElem_toArray, List.getElem_cons_zero, List.getElem_cons_succ, List.setIfInBounds_toArray, List.set_cons_zero, List.set_cons_succ])
      clear hHeld
      refine wpAnyH_ready (rs := [20]) (by kernel_rfl) (by simp) ?_
      refine AllReadyH.cons rfl (fun K hK => ?_) AllReadyH.nil
      go_simp
      refine (pick_any (w.heap.size + 1) (((((((0 + 1000) + 2) + 2) + 2) + 2) + 2) + 2) (M2) _ C_165 (by omega) (by omega) (by omega)).mono ?_
      rintro e wq167 ⟨x167, rfl, hx167, hc, hg⟩
      have C_167 := hc
      have Bx_167 := Bx_165.mark hg (fun z hz => by cases hz; omega)
      have Br_167 := Br_165.mark hg (fun z hz => by cases hz; omega)
      have O_167 := O_165.mark hg (fun z z' hz hz' => by cases hz; exact fun e => hne1 z' hz' e.symm)
      have HH_167 := HH_165.trans (grown_below (B := w.heap.size) hg (by omega) HH_165.size)
      have Lit22_167 := Lit22_165.mark hg (fun z hz => by cases hz; omega)
      have Lit11_167 := Lit11_165.mark hg (fun z hz => by cases hz; omega)
      clear hc hg
      refine hK.out _ _ (by exact ⟨Bx_167.cell 0, Bx_167.cell 1, Bx_167.cell 2⟩) (fun hHeld => ?_)
      clear hK K
      (try simp only [Act.put, List.getElem_toArray, List.getElem_cons_zero, List.getElem_cons_succ, List.setIfInBounds_toArray, List.set_cons_zero, List.set_cons_succ])
      clear hHeld
      refine wpAnyH_ready (rs := [23]) (by kernel_rfl) (by simp) ?_
      refine AllReadyH.cons rfl (fun K hK => ?_) AllReadyH.nil
      go_simp
      refine (among_any (w.heap.size + 1) ((((((((0 + 1000) + 2) + 2) + 2) + 2) + 2) + 2) + 2) q162 0 5 5 _ [1, 1, 1, 2, 0] _ C_167 (by omega) (lit_rd2 (xs := [1, 1, 1, 2, 0]) Lit22_167 (I64.lit (by decide)) (by decide)) (by omega) (by omega) (by omega)).mono ?_
      rintro e wq168 ⟨x168, rfl, _, hc, hg⟩
      have C_168 := hc
      have Bx_168 := Bx_167.mark hg (fun z hz => by cases hz; omega)
      have Br_168 := Br_167.mark hg (fun z hz => by cases hz; omega)
      have O_168 := O_167.mark hg (fun z z' hz hz' => by cases hz; exact fun e => hne1 z' hz' e.symm)
      have HH_168 := HH_167.trans (grown_below (B := w.heap.size) hg (by omega) HH_167.size)
      have Lit22_168 := Lit22_167.mark hg (fun z hz => by cases hz; omega)
      have Lit11_168 := Lit11_167.mark hg (fun z hz => by cases hz; omega)
      clear hc hg
      refine hK.out _ _ (by exact ⟨Bx_168.cell 0, Bx_168.cell 1, Bx_168.cell 2⟩) (fun hHeld => ?_)
      clear hK K
      (try simp only [Act.put, List.getElem_toArray, List.getElem_cons_zero, List.getElem_cons_succ, List.setIfInBounds_toArray, List.set_cons_zero, List.set_cons_succ])
      refine wpAnyH_take (i := 24) (v := ?_) rfl (by kernel_rfl) (by kernel_rfl) (by kernel_rfl) (fun _ _ _ h => h) (Or.inl ⟨by rfl, ?_⟩) (by assumption) ?_
      rotate_left
      · intro w hSw; (try dsimp only at hSw); go_simp; (try with_reducible rfl)
      (try simp only [Act.put, List.getElem_toArray, List.getElem_cons_zero, List.getElem_cons_succ, List.setIfInBounds_toArray, List.set_cons_zero, List.set_cons_succ])
      clear hHeld
      refine wpAnyH_ready (rs := [25]) (by kernel_rfl) (by simp) ?_
      refine AllReadyH.cons rfl (fun K hK => ?_) AllReadyH.nil
      have g0_169 := Br_168.cell 0
      have g1_169 := Br_168.cell 1
      have g2_169 := Br_168.cell 2
      have z0_169 := Br_168.frozen 0
      have z1_169 := Br_168.frozen 1
      have z2_169 := Br_168.frozen 2
      have F_169 := fin3 (p := w.heap.size) (a := .int .i64 W) (b := .int .i64 H) (c := .slice A1 xs.length c1) O_168 (row_ne' O_168.1 Br_168 (by decide)) HH_168 (Nat.le_refl _)
      have Bx_169 := Bx_168.far3' (p := w.heap.size) (a := .int .i64 W) (b := .int .i64 H) (c := .slice A1 xs.length c1) (by omega)
      have Br_169 := Br_168.put3' (.int .i64 W) (.int .i64 H) (.slice A1 xs.length c1)
      go_simp
      refine hK.out _ _ (by exact ⟨Bx_169.cell 0, Bx_169.cell 1, Bx_169.cell 2⟩) (fun hHeld => ?_)
      clear hK K
      (try simp only [Act.put, List.getElem_toArray, List.getElem_cons_zero, List.getElem_cons_succ, List.setIfInBounds_toArray, List.set_cons_zero, List.set_cons_succ])
      refine wpAnyH_take (i := 26) (v := ?_) rfl (by kernel_rfl) (by kernel_rfl) (by kernel_rfl) (fun _ _ _ h => h) (Or.inl ⟨by rfl, ?_⟩) (by assumption) ?_
      rotate_left
      · intro w hSw; (try dsimp only at hSw); go_simp; (try with_reducible rfl)
      (try simp only [Act.put, List.getElem_toArray, List.getElem_cons_zero, List.getElem_cons_succ, List.setIfInBounds_toArray, List.set_cons_zero, List.set_cons_succ])
      refine wpAnyH_take (i := 27) (v := ?_) rfl (by kernel_rfl) (by kernel_rfl) (by kernel_rfl) (fun _ _ _ h => h) (Or.inl ⟨by rfl, ?_⟩) (by assumption) ?_
      rotate_left
      · intro w hSw; (try dsimp only at hSw); go_simp; (try with_reducible rfl)
      (try simp only [Act.put, List.getElem_toArray, List.getElem_cons_zero, List.getElem_cons_succ, List.setIfInBounds_toArray, List.set_cons_zero, List.set_cons_succ])
      refine wpAnyH_take (i := 28) (v := ?_) rfl (by kernel_rfl) (by kernel_rfl) (by kernel_rfl) (fun _ _ _ h => h) (Or.inl ⟨by rfl, ?_⟩) (by assumption) ?_
      rotate_left
      · intro w hSw; (try dsimp only at hSw); go_simp; (try with_reducible rfl)
      (try simp only [Act.put, List.getElem_toArray, List.getElem_cons_zero, List.getElem_cons_succ, List.setIfInBounds_toArray, List.set_cons_zero, List.set_cons_succ])
      refine wpAnyH_take (i := 29) (v := ?_) rfl (by kernel_rfl) (by kernel_rfl) (by kernel_rfl) (fun _ _ _ h => h) (Or.inl ⟨by rfl, ?_⟩) (by assumption) ?_
      rotate_left
      · intro w hSw; (try dsimp only at hSw); go_simp; (try with_reducible rfl)
      (try simp only [Act.put, List.getElem_toArray, List.getElem_cons_zero, List.getElem_cons_succ, List.setIfInBounds_toArray, List.set_cons_zero, List.set_cons_succ])
      refine wpAnyH_done (by kernel_rfl) ?_ _
      refine NoPanic.normal ?_
      have g0 := Br_169.cell 0
      have g1 := Br_169.cell 1
      have g2 := Br_169.cell 2
      have F := F_169
      go_wp2
      exact bodyPost_ret (v := .tuple #[chartV W H (.slice A1 xs.length c1), .int .i64 row, .int .i64 col, .int .i64 (IntKind.i64.wrap (x163 + x165)), .int .i64 (IntKind.i64.wrap (x167 + x168))]) (by simp [results, Try.results5, go_sem, g0, g1, g2]) rfl ⟨W, H, A1, c1, xs, _, _, _, _, rfl, hsm, ⟨by omega, by omega⟩, ⟨by omega, by omega⟩, wrap_i64 _, wrap_i64 _, F.1, F.2⟩
    refine AllReadyH.cons rfl (fun K hK => ?_) AllReadyH.nil
    go_simp
    have hal170 := (Below.refl (wq162).heap.size (wq162)).alloc (Nat.le_refl _) (.cells #[.int .i64 1, .int .i64 1, .int .i64 1, .int .i64 2, .int .i64 0] 3)
    have C_170 := C_162.all hal170
    have Bx_170 := Bx_162.all hal170
    have Br_170 := Br_162.all hal170
    have O_170 := O_162.all hal170
    have HH_170 := HH_162.alloc HH_162.size (.cells #[.int .i64 1, .int .i64 1, .int .i64 1, .int .i64 2, .int .i64 0] 3)
    have Lit22_170 := Lit22_162.all hal170
    have Lit11_170 : Blk _ (wq162.heap.size) _ _ := Blk.new (wq162) #[.int .i64 1, .int .i64 1, .int .i64 1, .int .i64 2, .int .i64 0] 3
    obtain ⟨q170, hq170⟩ : ∃ q, wq162.heap.size = q := ⟨_, rfl⟩
    rw [hq170] at Lit11_170 ⊢
    obtain ⟨wq170, hw170⟩ : ∃ v, (wq162).alloc (.cells #[.int .i64 1, .int .i64 1, .int .i64 1, .int .i64 2, .int .i64 0] 3) = v := ⟨_, rfl⟩
    rw [hw170] at C_170 Bx_170 Br_170 O_170 HH_170 Lit22_170 Lit11_170 ⊢
    have hqp170 : q170 ≠ (w.heap.size + 1) := by have := C_162.lt; omega
    clear hal170 hw170 hq170
    refine hK.out _ _ (by exact ⟨Bx_170.cell 0, Bx_170.cell 1, Bx_170.cell 2⟩) (fun hHeld => ?_)
    clear hK K
    (try simp only [Act.put, List.getElem_toArray, List.getElem_cons_zero, List.getElem_cons_succ, List.setIfInBounds_toArray, List.set_cons_zero, List.set_cons_succ])
    clear hHeld
    refine wpAnyH_ready (rs := [9]) (by kernel_rfl) (by simp) ?_
    refine AllReadyH.cons rfl (fun K hK => ?_) AllReadyH.nil
    go_simp
    refine (pick_any (w.heap.size + 1) (((((0 + 1000) + 2) + 2) + 2) + 2) (M1) _ C_170 (by omega) (by omega) (by omega)).mono ?_
    rintro e wq171 ⟨x171, rfl, hx171, hc, hg⟩
    have C_171 := hc
    have Bx_171 := Bx_170.mark hg (fun z hz => by cases hz; omega)
    have Br_171 := Br_170.mark hg (fun z hz => by cases hz; omega)
    have O_171 := O_170.mark hg (fun z z' hz hz' => by cases hz; exact fun e => hne1 z' hz' e.symm)
    have HH_171 := HH_170.trans (grown_below (B := w.heap.size) hg (by omega) HH_170.size)
    have Lit22_171 := Lit22_170.mark hg (fun z hz => by cases hz; omega)
    have Lit11_171 := Lit11_170.mark hg (fun z hz => by cases hz; omega)
    clear hc hg
    refine hK.out _ _ (by exact ⟨Bx_171.cell 0, Bx_171.cell 1, Bx_171.cell 2⟩) (fun hHeld => ?_)
    clear hK K
    (try simp only [Act.put, List.getElem_toArray, List.getElem_cons_zero, List.getElem_cons_succ, List.setIfInBounds_toArray, List.set_cons_zero, List.set_cons_succ])
    clear hHeld
    refine wpAnyH_ready (rs := [12]) (by kernel_rfl) (by simp) ?_
    refine AllReadyH.cons rfl (fun K hK => ?_) AllReadyH.nil
    go_simp
    refine (among_any (w.heap.size + 1) ((((((0 + 1000) + 2) + 2) + 2) + 2) + 2) q170 0 5 5 _ [1, 1, 1, 2, 0] _ C_171 (by omega) (lit_rd2 (xs := [1, 1, 1, 2, 0]) Lit11_171 (I64.lit (by decide)) (by decide)) (by omega) (by omega) (by omega)).mono ?_
    rintro e wq172 ⟨x172, rfl, _, hc, hg⟩
    have C_172 := hc
    have Bx_172 := Bx_171.mark hg (fun z hz => by cases hz; omega)
    have Br_172 := Br_171.mark hg (fun z hz => by cases hz; omega)
    have O_172 := O_171.mark hg (fun z z' hz hz' => by cases hz; exact fun e => hne1 z' hz' e.symm)
    have HH_172 := HH_171.trans (grown_below (B := w.heap.size) hg (by omega) HH_171.size)
    have Lit22_172 := Lit22_171.mark hg (fun z hz => by cases hz; omega)
    have Lit11_172 := Lit11_171.mark hg (fun z hz => by cases hz; omega)
    clear hc hg
    refine hK.out _ _ (by exact ⟨Bx_172.cell 0, Bx_172.cell 1, Bx_172.cell 2⟩) (fun hHeld => ?_)
    clear hK K
    (try simp only [Act.put, List.getElem_toArray, List.getElem_cons_zero, List.getElem_cons_succ, List.setIfInBounds_toArray, List.set_cons_zero, List.set_cons_succ])
    refine wpAnyH_take (i := 13) (v := ?_) rfl (by kernel_rfl) (by kernel_rfl) (by kernel_rfl) (fun _ _ _ h => h) (Or.inl ⟨by rfl, ?_⟩) (by assumption) ?_
    rotate_left
    · intro w hSw; (try dsimp only at hSw); go_simp; (try with_reducible rfl)
    (try simp only [Act.put, List.getElem_toArray, List.getElem_cons_zero, List.getElem_cons_succ, List.setIfInBounds_toArray, List.set_cons_zero, List.set_cons_succ])
    clear hHeld
    refine wpAnyH_ready (rs := [19]) (by kernel_rfl) (by simp) ?_
    refine AllReadyH.cons rfl (fun K hK => ?_) AllReadyH.nil
    go_simp
    refine (l1Most_v 1 (W - col) M2 _ KM2.out).mono ?_
    rintro e wq173 ⟨rfl, rfl⟩
    refine hK.out _ _ (by exact ⟨Bx_172.cell 0, Bx_172.cell 1, Bx_172.cell 2⟩) (fun hHeld => ?_)
    clear hK K
    (try simp only [Act.put, List.getElem_toArray, List.getElem_cons_zero, List.getElem_cons_succ, List.setIfInBounds_toArray, List.set_cons_zero, List.set_cons_succ])
    clear hHeld
    refine wpAnyH_ready (rs := [20]) (by kernel_rfl) (by simp) ?_
    refine AllReadyH.cons rfl (fun K hK => ?_) AllReadyH.nil
    go_simp
    refine (pick_any (w.heap.size + 1) (((((((0 + 1000) + 2) + 2) + 2) + 2) + 2) + 2) (M2) _ C_172 (by omega) (by omega) (by omega)).mono ?_
    rintro e wq174 ⟨x174, rfl, hx174, hc, hg⟩
    have C_174 := hc
    have Bx_174 := Bx_172.mark hg (fun z hz => by cases hz; omega)
    have Br_174 := Br_172.mark hg (fun z hz => by cases hz; omega)
    have O_174 := O_172.mark hg (fun z z' hz hz' => by cases hz; exact fun e => hne1 z' hz' e.symm)
    have HH_174 := HH_172.trans (grown_below (B := w.heap.size) hg (by omega) HH_172.size)
    have Lit22_174 := Lit22_172.mark hg (fun z hz => by cases hz; omega)
    have Lit11_174 := Lit11_172.mark hg (fun z hz => by cases hz; omega)
    clear hc hg
    refine hK.out _ _ (by exact ⟨Bx_174.cell 0, Bx_174.cell 1, Bx_174.cell 2⟩) (fun hHeld => ?_)
    clear hK K
    (try simp only [Act.put, List.getElem_toArray, List.getElem_cons_zero, List.getElem_cons_succ, List.setIfInBounds_toArray, List.set_cons_zero, List.set_cons_succ])
    clear hHeld
    refine wpAnyH_ready (rs := [23]) (by kernel_rfl) (by simp) ?_
    refine AllReadyH.cons rfl (fun K hK => ?_) AllReadyH.nil
    go_simp
    refine (among_any (w.heap.size + 1) ((((((((0 + 1000) + 2) + 2) + 2) + 2) + 2) + 2) + 2) q162 0 5 5 _ [1, 1, 1, 2, 0] _ C_174 (by omega) (lit_rd2 (xs := [1, 1, 1, 2, 0]) Lit22_174 (I64.lit (by decide)) (by decide)) (by omega) (by omega) (by omega)).mono ?_
    rintro e wq175 ⟨x175, rfl, _, hc, hg⟩
    have C_175 := hc
    have Bx_175 := Bx_174.mark hg (fun z hz => by cases hz; omega)
    have Br_175 := Br_174.mark hg (fun z hz => by cases hz; omega)
    have O_175 := O_174.mark hg (fun z z' hz hz' => by cases hz; exact fun e => hne1 z' hz' e.symm)
    have HH_175 := HH_174.trans (grown_below (B := w.heap.size) hg (by omega) HH_174.size)
    have Lit22_175 := Lit22_174.mark hg (fun z hz => by cases hz; omega)
    have Lit11_175 := Lit11_174.mark hg (fun z hz => by cases hz; omega)
    clear hc hg
    refine hK.out _ _ (by exact ⟨Bx_175.cell 0, Bx_175.cell 1, Bx_175.cell 2⟩) (fun hHeld => ?_)
    clear hK K
    (try simp only [Act.put, List.getElem_toArray, List.getElem_cons_zero, List.getElem_cons_succ, List.setIfInBounds_toArray, List.set_cons_zero, List.set_cons_succ])
    refine wpAnyH_take (i := 24) (v := ?_) rfl (by kernel_rfl) (by kernel_rfl) (by kernel_rfl) (fun _ _ _ h => h) (Or.inl ⟨by rfl, ?_⟩) (by assumption) ?_
    rotate_left
    · intro w hSw; (try dsimp only at hSw); go_simp; (try with_reducible rfl)
    (try simp only [Act.put, List.getElem_toArray, List.getElem_cons_zero, List.getElem_cons_succ, List.setIfInBounds_toArray, List.set_cons_zero, List.set_cons_succ])
    clear hHeld
    refine wpAnyH_ready (rs := [25]) (by kernel_rfl) (by simp) ?_
    refine AllReadyH.cons rfl (fun K hK => ?_) AllReadyH.nil
    have g0_176 := Br_175.cell 0
    have g1_176 := Br_175.cell 1
    have g2_176 := Br_175.cell 2
    have z0_176 := Br_175.frozen 0
    have z1_176 := Br_175.frozen 1
    have z2_176 := Br_175.frozen 2
    have F_176 := fin3 (p := w.heap.size) (a := .int .i64 W) (b := .int .i64 H) (c := .slice A1 xs.length c1) O_175 (row_ne' O_175.1 Br_175 (by decide)) HH_175 (Nat.le_refl _)
    have Bx_176 := Bx_175.far3' (p := w.heap.size) (a := .int .i64 W) (b := .int .i64 H) (c := .slice A1 xs.length c1) (by omega)
    have Br_176 := Br_175.put3' (.int .i64 W) (.int .i64 H) (.slice A1 xs.length c1)
    go_simp
    refine hK.out _ _ (by exact ⟨Bx_176.cell 0, Bx_176.cell 1, Bx_176.cell 2⟩) (fun hHeld => ?_)
    clear hK K
    (try simp only [Act.put, List.getElem_toArray, List.getElem_cons_zero, List.getElem_cons_succ, List.setIfInBounds_toArray, List.set_cons_zero, List.set_cons_succ])
    refine wpAnyH_take (i := 26) (v := ?_) rfl (by kernel_rfl) (by kernel_rfl) (by kernel_rfl) (fun _ _ _ h => h) (Or.inl ⟨by rfl, ?_⟩) (by assumption) ?_
    rotate_left
    · intro w hSw; (try dsimp only at hSw); go_simp; (try with_reducible rfl)
    (try simp only [Act.put, List.getElem_toArray, List.getElem_cons_zero, List.getElem_cons_succ, List.setIfInBounds_toArray, List.set_cons_zero, List.set_cons_succ])
    refine wpAnyH_take (i := 27) (v := ?_) rfl (by kernel_rfl) (by kernel_rfl) (by kernel_rfl) (fun _ _ _ h => h) (Or.inl ⟨by rfl, ?_⟩) (by assumption) ?_
    rotate_left
    · intro w hSw; (try dsimp only at hSw); go_simp; (try with_reducible rfl)
    (try simp only [Act.put, List.getElem_toArray, List.getElem_cons_zero, List.getElem_cons_succ, List.setIfInBounds_toArray, List.set_cons_zero, List.set_cons_succ])
    refine wpAnyH_take (i := 28) (v := ?_) rfl (by kernel_rfl) (by kernel_rfl) (by kernel_rfl) (fun _ _ _ h => h) (Or.inl ⟨by rfl, ?_⟩) (by assumption) ?_
    rotate_left
    · intro w hSw; (try dsimp only at hSw); go_simp; (try with_reducible rfl)
    (try simp only [Act.put, List.getElem_toArray, List.getElem_cons_zero, List.getElem_cons_succ, List.setIfInBounds_toArray, List.set_cons_zero, List.set_cons_succ])
    refine wpAnyH_take (i := 29) (v := ?_) rfl (by kernel_rfl) (by kernel_rfl) (by kernel_rfl) (fun _ _ _ h => h) (Or.inl ⟨by rfl, ?_⟩) (by assumption) ?_
    rotate_left
    · intro w hSw; (try dsimp only at hSw); go_simp; (try with_reducible rfl)
    (try simp only [Act.put, List.getElem_toArray, List.getElem_cons_zero, List.getElem_cons_succ, List.setIfInBounds_toArray, List.set_cons_zero, List.set_cons_succ])
    refine wpAnyH_done (by kernel_rfl) ?_ _
    refine NoPanic.normal ?_
    have g0 := Br_176.cell 0
    have g1 := Br_176.cell 1
    have g2 := Br_176.cell 2
    have F := F_176
    go_wp2
    exact bodyPost_ret (v := .tuple #[chartV W H (.slice A1 xs.length c1), .int .i64 row, .int .i64 col, .int .i64 (IntKind.i64.wrap (x171 + x172)), .int .i64 (IntKind.i64.wrap (x174 + x175))]) (by simp [results, Try.results5, go_sem, g0, g1, g2]) rfl ⟨W, H, A1, c1, xs, _, _, _, _, rfl, hsm, ⟨by omega, by omega⟩, ⟨by omega, by omega⟩, wrap_i64 _, wrap_i64 _, F.1, F.2⟩
  refine AllReadyH.cons rfl (fun K hK => ?_) ?_
  · skip
    go_simp
    have hal177 := (Below.refl (wd100).heap.size (wd100)).alloc (Nat.le_refl _) (.cells #[.int .i64 1, .int .i64 1, .int .i64 1, .int .i64 2, .int .i64 0] 3)
    have C_177 := C_0.all hal177
    have Bx_177 := Bx_0.all hal177
    have Br_177 := Br_0.all hal177
    have O_177 := O_0.all hal177
    have HH_177 := HH_0.alloc HH_0.size (.cells #[.int .i64 1, .int .i64 1, .int .i64 1, .int .i64 2, .int .i64 0] 3)
    have Lit11_177 : Blk _ (wd100.heap.size) _ _ := Blk.new (wd100) #[.int .i64 1, .int .i64 1, .int .i64 1, .int .i64 2, .int .i64 0] 3
    obtain ⟨q177, hq177⟩ : ∃ q, wd100.heap.size = q := ⟨_, rfl⟩
    rw [hq177] at Lit11_177 ⊢
    obtain ⟨wq177, hw177⟩ : ∃ v, (wd100).alloc (.cells #[.int .i64 1, .int .i64 1, .int .i64 1, .int .i64 2, .int .i64 0] 3) = v := ⟨_, rfl⟩
    rw [hw177] at C_177 Bx_177 Br_177 O_177 HH_177 Lit11_177 ⊢
    have hqp177 : q177 ≠ (w.heap.size + 1) := by have := C_0.lt; omega
    clear hal177 hw177 hq177
    refine hK.out _ _ (by exact ⟨Bx_177.cell 0, Bx_177.cell 1, Bx_177.cell 2⟩) (fun hHeld => ?_)
    clear hK K
    (try simp only [Act.put, List.getElem_toArray, List.getElem_cons_zero, List.getElem_cons_succ, List.setIfInBounds_toArray, List.set_cons_zero, List.set_cons_succ])
    clear hHeld
    refine wpAnyH_ready (rs := [8, 22]) (by kernel_rfl) (by simp) ?_
    refine AllReadyH.cons rfl (fun K hK => ?_) ?_
    · skip
      go_simp
      refine (l1Most_v 1 (H - row) M1 _ KM1.out).mono ?_
      rintro e wq178 ⟨rfl, rfl⟩
      refine hK.out _ _ (by exact ⟨Bx_177.cell 0, Bx_177.cell 1, Bx_177.cell 2⟩) (fun hHeld => ?_)
      clear hK K
      (try simp only [Act.put, List.getElem_toArray, List.getElem_cons_zero, List.getElem_cons_succ, List.setIfInBounds_toArray, List.set_cons_zero, List.set_cons_succ])
      clear hHeld
      refine wpAnyH_ready (rs := [9, 22]) (by kernel_rfl) (by simp) ?_
      refine AllReadyH.cons rfl (fun K hK => ?_) ?_
      · skip
        go_simp
        refine (pick_any (w.heap.size + 1) (((((0 + 1000) + 2) + 2) + 2) + 2) (M1) _ C_177 (by omega) (by omega) (by omega)).mono ?_
        rintro e wq179 ⟨x179, rfl, hx179, hc, hg⟩
        have C_179 := hc
        have Bx_179 := Bx_177.mark hg (fun z hz => by cases hz; omega)
        have Br_179 := Br_177.mark hg (fun z hz => by cases hz; omega)
        have O_179 := O_177.mark hg (fun z z' hz hz' => by cases hz; exact fun e => hne1 z' hz' e.symm)
        have HH_179 := HH_177.trans (grown_below (B := w.heap.size) hg (by omega) HH_177.size)
        have Lit11_179 := Lit11_177.mark hg (fun z hz => by cases hz; omega)
        clear hc hg
        refine hK.out _ _ (by exact ⟨Bx_179.cell 0, Bx_179.cell 1, Bx_179.cell 2⟩) (fun hHeld => ?_)
        clear hK K
        (try simp only [Act.put, List.getElem_toArray, List.getElem_cons_zero, List.getElem_cons_succ, List.setIfInBounds_toArray, List.set_cons_zero, List.set_cons_succ])
        clear hHeld
        refine wpAnyH_ready (rs := [12, 22]) (by kernel_rfl) (by simp) ?_
        refine AllReadyH.cons rfl (fun K hK => ?_) ?_
        · skip
          go_simp
          refine (among_any (w.heap.size + 1) ((((((0 + 1000) + 2) + 2) + 2) + 2) + 2) q177 0 5 5 _ [1, 1, 1, 2, 0] _ C_179 (by omega) (lit_rd2 (xs := [1, 1, 1, 2, 0]) Lit11_179 (I64.lit (by decide)) (by decide)) (by omega) (by omega) (by omega)).mono ?_
          rintro e wq180 ⟨x180, rfl, _, hc, hg⟩
          have C_180 := hc
          have Bx_180 := Bx_179.mark hg (fun z hz => by cases hz; omega)
          have Br_180 := Br_179.mark hg (fun z hz => by cases hz; omega)
          have O_180 := O_179.mark hg (fun z z' hz hz' => by cases hz; exact fun e => hne1 z' hz' e.symm)
          have HH_180 := HH_179.trans (grown_below (B := w.heap.size) hg (by omega) HH_179.size)
          have Lit11_180 := Lit11_179.mark hg (fun z hz => by cases hz; omega)
          clear hc hg
          refine hK.out _ _ (by exact ⟨Bx_180.cell 0, Bx_180.cell 1, Bx_180.cell 2⟩) (fun hHeld => ?_)
          clear hK K
          (try simp only [Act.put, List.getElem_toArray, List.getElem_cons_zero, List.getElem_cons_succ, List.setIfInBounds_toArray, List.set_cons_zero, List.set_cons_succ])
          refine wpAnyH_take (i := 13) (v := ?_) rfl (by kernel_rfl) (by kernel_rfl) (by kernel_rfl) (fun _ _ _ h => h) (Or.inl ⟨by rfl, ?_⟩) (by assumption) ?_
          rotate_left
          · intro w hSw; (try dsimp only at hSw); go_simp; (try with_reducible rfl)
          (try simp only [Act.put, List.getElem_toArray, List.getElem_cons_zero, List.getElem_cons_succ, List.setIfInBounds_toArray, List.set_cons_zero, List.set_cons_succ])
          clear hHeld
          refine wpAnyH_ready (rs := [19, 22]) (by kernel_rfl) (by simp) ?_
          refine AllReadyH.cons rfl (fun K hK => ?_) ?_
          · skip
            go_simp
            refine (l1Most_v 1 (W - col) M2 _ KM2.out).mono ?_
            rintro e wq181 ⟨rfl, rfl⟩
            refine hK.out _ _ (by exact ⟨Bx_180.cell 0, Bx_180.cell 1, Bx_180.cell 2⟩) (fun hHeld => ?_)
            clear hK K
            (try simp only [Act.put, List.getElem_toArray, List.getElem_cons_zero, List.getElem_cons_succ, List.setIfInBounds_toArray, List.set_cons_zero, List.set_cons_succ])
            clear hHeld
            refine wpAnyH_ready (rs := [20, 22]) (by kernel_rfl) (by simp) ?_
            refine AllReadyH.cons rfl (fun K hK => ?_) ?_
            · skip
              go_simp
              refine (pick_any (w.heap.size + 1) (((((((0 + 1000) + 2) + 2) + 2) + 2) + 2) + 2) (M2) _ C_180 (by omega) (by omega) (by omega)).mono ?_
              rintro e wq182 ⟨x182, rfl, hx182, hc, hg⟩
              have C_182 := hc
              have Bx_182 := Bx_180.mark hg (fun z hz => by cases hz; omega)
              have Br_182 := Br_180.mark hg (fun z hz => by cases hz; omega)
              have O_182 := O_180.mark hg (fun z z' hz hz' => by cases hz; exact fun e => hne1 z' hz' e.symm)
              have HH_182 := HH_180.trans (grown_below (B := w.heap.size) hg (by omega) HH_180.size)
              have Lit11_182 := Lit11_180.mark hg (fun z hz => by cases hz; omega)
              clear hc hg
              refine hK.out _ _ (by exact ⟨Bx_182.cell 0, Bx_182.cell 1, Bx_182.cell 2⟩) (fun hHeld => ?_)
              clear hK K
              (try simp only [Act.put, List.getElem_toArray, List.getElem_cons_zero, List.getElem_cons_succ, List.setIfInBounds_toArray, List.set_cons_zero, List.set_cons_succ])
              clear hHeld
              refine wpAnyH_ready (rs := [22]) (by kernel_rfl) (by simp) ?_
              refine AllReadyH.cons rfl (fun K hK => ?_) AllReadyH.nil
              go_simp
              have hal183 := (Below.refl (wq182).heap.size (wq182)).alloc (Nat.le_refl _) (.cells #[.int .i64 1, .int .i64 1, .int .i64 1, .int .i64 2, .int .i64 0] 3)
              have C_183 := C_182.all hal183
              have Bx_183 := Bx_182.all hal183
              have Br_183 := Br_182.all hal183
              have O_183 := O_182.all hal183
              have HH_183 := HH_182.alloc HH_182.size (.cells #[.int .i64 1, .int .i64 1, .int .i64 1, .int .i64 2, .int .i64 0] 3)
              have Lit11_183 := Lit11_182.all hal183
              have Lit22_183 : Blk _ (wq182.heap.size) _ _ := Blk.new (wq182) #[.int .i64 1, .int .i64 1, .int .i64 1, .int .i64 2, .int .i64 0] 3
              obtain ⟨q183, hq183⟩ : ∃ q, wq182.heap.size = q := ⟨_, rfl⟩
              rw [hq183] at Lit22_183 ⊢
              obtain ⟨wq183, hw183⟩ : ∃ v, (wq182).alloc (.cells #[.int .i64 1, .int .i64 1, .int .i64 1, .int .i64 2, .int .i64 0] 3) = v := ⟨_, rfl⟩
              rw [hw183] at C_183 Bx_183 Br_183 O_183 HH_183 Lit11_183 Lit22_183 ⊢
              have hqp183 : q183 ≠ (w.heap.size + 1) := by have := C_182.lt; omega
              clear hal183 hw183 hq183
              refine hK.out _ _ (by exact ⟨Bx_183.cell 0, Bx_183.cell 1, Bx_183.cell 2⟩) (fun hHeld => ?_)
              clear hK K
              (try simp only [Act.put, List.getElem_toArray, List.getElem_cons_zero, List.getElem_cons_succ, List.setIfInBounds_toArray, List.set_cons_zero, List.set_cons_succ])
              clear hHeld
              refine wpAnyH_ready (rs := [23]) (by kernel_rfl) (by simp) ?_
              refine AllReadyH.cons rfl (fun K hK => ?_) AllReadyH.nil
              go_simp
              refine (among_any (w.heap.size + 1) ((((((((0 + 1000) + 2) + 2) + 2) + 2) + 2) + 2) + 2) q183 0 5 5 _ [1, 1, 1, 2, 0] _ C_183 (by omega) (lit_rd2 (xs := [1, 1, 1, 2, 0]) Lit22_183 (I64.lit (by decide)) (by decide)) (by omega) (by omega) (by omega)).mono ?_
              rintro e wq184 ⟨x184, rfl, _, hc, hg⟩
              have C_184 := hc
              have Bx_184 := Bx_183.mark hg (fun z hz => by cases hz; omega)
              have Br_184 := Br_183.mark hg (fun z hz => by cases hz; omega)
              have O_184 := O_183.mark hg (fun z z' hz hz' => by cases hz; exact fun e => hne1 z' hz' e.symm)
              have HH_184 := HH_183.trans (grown_below (B := w.heap.size) hg (by omega) HH_183.size)
              have Lit11_184 := Lit11_183.mark hg (fun z hz => by cases hz; omega)
              have Lit22_184 := Lit22_183.mark hg (fun z hz => by cases hz; omega)
              clear hc hg
              refine hK.out _ _ (by exact ⟨Bx_184.cell 0, Bx_184.cell 1, Bx_184.cell 2⟩) (fun hHeld => ?_)
              clear hK K
              (try simp only [Act.put, List.getElem_toArray, List.getElem_cons_zero, List.getElem_cons_succ, List.setIfInBounds_toArray, List.set_cons_zero, List.set_cons_succ])
              refine wpAnyH_take (i := 24) (v := ?_) rfl (by kernel_rfl) (by kernel_rfl) (by kernel_rfl) (fun _ _ _ h => h) (Or.inl ⟨by rfl, ?_⟩) (by assumption) ?_
              rotate_left
              · intro w hSw; (try dsimp only at hSw); go_simp; (try with_reducible rfl)
              (try simp only [Act.put, List.getElem_toArray, List.getElem_cons_zero, List.getElem_cons_succ, List.setIfInBounds_toArray, List.set_cons_zero, List.set_cons_succ])
              clear hHeld
              refine wpAnyH_ready (rs := [25]) (by kernel_rfl) (by simp) ?_
              refine AllReadyH.cons rfl (fun K hK => ?_) AllReadyH.nil
              have g0_185 := Br_184.cell 0
              have g1_185 := Br_184.cell 1
              have g2_185 := Br_184.cell 2
              have z0_185 := Br_184.frozen 0
              have z1_185 := Br_184.frozen 1
              have z2_185 := Br_184.frozen 2
              have F_185 := fin3 (p := w.heap.size) (a := .int .i64 W) (b := .int .i64 H) (c := .slice A1 xs.length c1) O_184 (row_ne' O_184.1 Br_184 (by decide)) HH_184 (Nat.le_refl _)
              have Bx_185 := Bx_184.far3' (p := w.heap.size) (a := .int .i64 W) (b := .int .i64 H) (c := .slice A1 xs.length c1) (by omega)
              have Br_185 := Br_184.put3' (.int .i64 W) (.int .i64 H) (.slice A1 xs.length c1)
              go_simp
              refine hK.out _ _ (by exact ⟨Bx_185.cell 0, Bx_185.cell 1, Bx_185.cell 2⟩) (fun hHeld => ?_)
              clear hK K
              (try simp only [Act.put, List.getElem_toArray, List.getElem_cons_zero, List.getElem_cons_succ, List.setIfInBounds_toArray, List.set_cons_zero, List.set_cons_succ])
              refine wpAnyH_take (i := 26) (v := ?_) rfl (by kernel_rfl) (by kernel_rfl) (by kernel_rfl) (fun _ _ _ h => h) (Or.inl ⟨by rfl, ?_⟩) (by assumption) ?_
              rotate_left
              · intro w hSw; (try dsimp only at hSw); go_simp; (try with_reducible rfl)
              (try simp only [Act.put, List.getElem_toArray, List.getElem_cons_zero, List.getElem_cons_succ, List.setIfInBounds_toArray, List.set_cons_zero, List.set_cons_succ])
              refine wpAnyH_take (i := 27) (v := ?_) rfl (by kernel_rfl) (by kernel_rfl) (by kernel_rfl) (fun _ _ _ h => h) (Or.inl ⟨by rfl, ?_⟩) (by assumption) ?_
              rotate_left
              · intro w hSw; (try dsimp only at hSw); go_simp; (try with_reducible rfl)
              (try simp only [Act.put, List.getElem_toArray, List.getElem_cons_zero, List.getElem_cons_succ, List.setIfInBounds_toArray, List.set_cons_zero, List.set_cons_succ])
              refine wpAnyH_take (i := 28) (v := ?_) rfl (by kernel_rfl) (by kernel_rfl) (by kernel_rfl) (fun _ _ _ h => h) (Or.inl ⟨by rfl, ?_⟩) (by assumption) ?_
              rotate_left
              · intro w hSw; (try dsimp only at hSw); go_simp; (try with_reducible rfl)
              (try simp only [Act.put, List.getElem_toArray, List.getElem_cons_zero, List.getElem_cons_succ, List.setIfInBounds_toArray, List.set_cons_zero, List.set_cons_succ])
              refine wpAnyH_take (i := 29) (v := ?_) rfl (by kernel_rfl) (by kernel_rfl) (by kernel_rfl) (fun _ _ _ h => h) (Or.inl ⟨by rfl, ?_⟩) (by assumption) ?_
              rotate_left
              · intro w hSw; (try dsimp only at hSw); go_simp; (try with_reducible rfl)
              (try simp only [Act.put, List.getElem_toArray, List.getElem_cons_zero, List.getElem_cons_succ, List.setIfInBounds_toArray, List.set_cons_zero, List.set_cons_succ])
              refine wpAnyH_done (by kernel_rfl) ?_ _
              refine NoPanic.normal ?_
              have g0 := Br_185.cell 0
              have g1 := Br_185.cell 1
              have g2 := Br_185.cell 2
              have F := F_185
              go_wp2
              exact bodyPost_ret (v := .tuple #[chartV W H (.slice A1 xs.length c1), .int .i64 row, .int .i64 col, .int .i64 (IntKind.i64.wrap (x179 + x180)), .int .i64 (IntKind.i64.wrap (x182 + x184))]) (by simp [results, Try.results5, go_sem, g0, g1, g2]) rfl ⟨W, H, A1, c1, xs, _, _, _, _, rfl, hsm, ⟨by omega, by omega⟩, ⟨by omega, by omega⟩, wrap_i64 _, wrap_i64 _, F.1, F.2⟩
            refine AllReadyH.cons rfl (fun K hK => ?_) AllReadyH.nil
            go_simp
            have hal186 := (Below.refl (wq180).heap.size (wq180)).alloc (Nat.le_refl _) (.cells #[.int .i64 1, .int .i64 1, .int .i64 1, .int .i64 2, .int .i64 0] 3)
            have C_186 := C_180.all hal186
            have Bx_186 := Bx_180.all hal186
            have Br_186 := Br_180.all hal186
            have O_186 := O_180.all hal186
            have HH_186 := HH_180.alloc HH_180.size (.cells #[.int .i64 1, .int .i64 1, .int .i64 1, .int .i64 2, .int .i64 0] 3)
            have Lit11_186 := Lit11_180.all hal186
            have Lit22_186 : Blk _ (wq180.heap.size) _ _ := Blk.new (wq180) #[.int .i64 1, .int .i64 1, .int .i64 1, .int .i64 2, .int .i64 0] 3
            obtain ⟨q186, hq186⟩ : ∃ q, wq180.heap.size = q := ⟨_, rfl⟩
            rw [hq186] at Lit22_186 ⊢
            obtain ⟨wq186, hw186⟩ : ∃ v, (wq180).alloc (.cells #[.int .i64 1, .int .i64 1, .int .i64 1, .int .i64 2, .int .i64 0] 3) = v := ⟨_, rfl⟩
            rw [hw186] at C_186 Bx_186 Br_186 O_186 HH_186 Lit11_186 Lit22_186 ⊢
            have hqp186 : q186 ≠ (w.heap.size + 1) := by have := C_180.lt; omega
            clear hal186 hw186 hq186
            refine hK.out _ _ (by exact ⟨Bx_186.cell 0, Bx_186.cell 1, Bx_186.cell 2⟩) (fun hHeld => ?_)
            clear hK K
            (try simp only [Act.put, List.getElem_toArray, List.getElem_cons_zero, List.getElem_cons_succ, List.setIfInBounds_toArray, List.set_cons_zero, List.set_cons_succ])
            clear hHeld
            refine wpAnyH_ready (rs := [20]) (by kernel_rfl) (by simp) ?_
            refine AllReadyH.cons rfl (fun K hK => ?_) AllReadyH.nil
            go_simp
            refine (pick_any (w.heap.size + 1) (((((((0 + 1000) + 2) + 2) + 2) + 2) + 2) + 2) (M2) _ C_186 (by omega) (by omega) (by omega)).mono ?_
            rintro e wq187 ⟨x187, rfl, hx187, hc, hg⟩
            have C_187 := hc
            have Bx_187 := Bx_186.mark hg (fun z hz => by cases hz; omega)
            have Br_187 := Br_186.mark hg (fun z hz => by cases hz; omega)
            have O_187 := O_186.mark hg (fun z z' hz hz' => by cases hz; exact fun e => hne1 z' hz' e.symm)
            have HH_187 := HH_186.trans (grown_below (B := w.heap.size) hg (by omega) HH_186.size)
            have Lit11_187 := Lit11_186.mark hg (fun z hz => by cases hz; omega)
            have Lit22_187 := Lit22_186.mark hg (fun z hz => by cases hz; omega)
            clear hc hg
            refine hK.out _ _ (by exact ⟨Bx_187.cell 0, Bx_187.cell 1, Bx_187.cell 2⟩) (fun hHeld => ?_)
            clear hK K
            (try simp only [Act.put, List.getElem_toArray, List.getElem_cons_zero, List.getElem_cons_succ, List.setIfInBounds_toArray, List.set_cons_zero, List.set_cons_succ])
            clear hHeld
            refine wpAnyH_ready (rs := [23]) (by kernel_rfl) (by simp) ?_
            refine AllReadyH.cons rfl (fun K hK => ?_) AllReadyH.nil
            go_simp
            refine (among_any (w.heap.size + 1) ((((((((0 + 1000) + 2) + 2) + 2) + 2) + 2) + 2) + 2) q186 0 5 5 _ [1, 1, 1, 2, 0] _ C_187 (by omega) (lit_rd2 (xs := [1, 1, 1, 2, 0]) Lit22_187 (I64.lit (by decide)) (by decide)) (by omega) (by omega) (by omega)).mono ?_
            rintro e wq188 ⟨x188, rfl, _, hc, hg⟩
            have C_188 := hc
            have Bx_188 := Bx_187.mark hg (fun z hz => by cases hz; omega)
            have Br_188 := Br_187.mark hg (fun z hz => by cases hz; omega)
            have O_188 := O_187.mark hg (fun z z' hz hz' => by cases hz; exact fun e => hne1 z' hz' e.symm)
            have HH_188 := HH_187.trans (grown_below (B := w.heap.size) hg (by omega) HH_187.size)
            have Lit11_188 := Lit11_187.mark hg (fun z hz => by cases hz; omega)
            have Lit22_188 := Lit22_187.mark hg (fun z hz => by cases hz; omega)
            clear hc hg
            refine hK.out _ _ (by exact ⟨Bx_188.cell 0, Bx_188.cell 1, Bx_188.cell 2⟩) (fun hHeld => ?_)
            clear hK K
            (try simp only [Act.put, List.getElem_toArray, List.getElem_cons_zero, List.getElem_cons_succ, List.setIfInBounds_toArray, List.set_cons_zero, List.set_cons_succ])
            refine wpAnyH_take (i := 24) (v := ?_) rfl (by kernel_rfl) (by kernel_rfl) (by kernel_rfl) (fun _ _ _ h => h) (Or.inl ⟨by rfl, ?_⟩) (by assumption) ?_
            rotate_left
            · intro w hSw; (try dsimp only at hSw); go_simp; (try with_reducible rfl)
            (try simp only [Act.put, List.getElem_toArray, List.getElem_cons_zero, List.getElem_cons_succ, List.setIfInBounds_toArray, List.set_cons_zero, List.set_cons_succ])
            clear hHeld
            refine wpAnyH_ready (rs := [25]) (by kernel_rfl) (by simp) ?_
            refine AllReadyH.cons rfl (fun K hK => ?_) AllReadyH.nil
            have g0_189 := Br_188.cell 0
            have g1_189 := Br_188.cell 1
            have g2_189 := Br_188.cell 2
            have z0_189 := Br_188.frozen 0
            have z1_189 := Br_188.frozen 1
            have z2_189 := Br_188.frozen 2
            have F_189 := fin3 (p := w.heap.size) (a := .int .i64 W) (b := .int .i64 H) (c := .slice A1 xs.length c1) O_188 (row_ne' O_188.1 Br_188 (by decide)) HH_188 (Nat.le_refl _)
            have Bx_189 := Bx_188.far3' (p := w.heap.size) (a := .int .i64 W) (b := .int .i64 H) (c := .slice A1 xs.length c1) (by omega)
            have Br_189 := Br_188.put3' (.int .i64 W) (.int .i64 H) (.slice A1 xs.length c1)
            go_simp
            refine hK.out _ _ (by exact ⟨Bx_189.cell 0, Bx_189.cell 1, Bx_189.cell 2⟩) (fun hHeld => ?_)
            clear hK K
            (try simp only [Act.put, List.getElem_toArray, List.getElem_cons_zero, List.getElem_cons_succ, List.setIfInBounds_toArray, List.set_cons_zero, List.set_cons_succ])
            refine wpAnyH_take (i := 26) (v := ?_) rfl (by kernel_rfl) (by kernel_rfl) (by kernel_rfl) (fun _ _ _ h => h) (Or.inl ⟨by rfl, ?_⟩) (by assumption) ?_
            rotate_left
            · intro w hSw; (try dsimp only at hSw); go_simp; (try with_reducible rfl)
            (try simp only [Act.put, List.getElem_toArray, List.getElem_cons_zero, List.getElem_cons_succ, List.setIfInBounds_toArray, List.set_cons_zero, List.set_cons_succ])
            refine wpAnyH_take (i := 27) (v := ?_) rfl (by kernel_rfl) (by kernel_rfl) (by kernel_rfl) (fun _ _ _ h => h) (Or.inl ⟨by rfl, ?_⟩) (by assumption) ?_
            rotate_left
            · intro w hSw; (try dsimp only at hSw); go_simp; (try with_reducible rfl)
            (try simp only [Act.put, List.getElem_toArray, List.getElem_cons_zero, List.getElem_cons_succ, List.setIfInBounds_toArray, List.set_cons_zero, List.set_cons_succ])
            refine wpAnyH_take (i := 28) (v := ?_) rfl (by kernel_rfl) (by kernel_rfl) (by kernel_rfl) (fun _ _ _ h => h) (Or.inl ⟨by rfl, ?_⟩) (by assumption) ?_
            rotate_left
            · intro w hSw; (try dsimp only at hSw); go_simp; (try with_reducible rfl)
            (try simp only [Act.put, List.getElem_toArray, List.getElem_cons_zero, List.getElem_cons_succ, List.setIfInBounds_toArray, List.set_cons_zero, List.set_cons_succ])
            refine wpAnyH_take (i := 29) (v := ?_) rfl (by kernel_rfl) (by kernel_rfl) (by kernel_rfl) (fun _ _ _ h => h) (Or.inl ⟨by rfl, ?_⟩) (by assumption) ?_
            rotate_left
            · intro w hSw; (try dsimp only at hSw); go_simp; (try with_reducible rfl)
            (try simp only [Act.put, List.getElem_toArray, List.getElem_cons_zero, List.getElem_cons_succ, List.setIfInBounds_toArray, List.set_cons_zero, List.set_cons_succ])
            refine wpAnyH_done (by kernel_rfl) ?_ _
            refine NoPanic.normal ?_
            have g0 := Br_189.cell 0
            have g1 := Br_189.cell 1
            have g2 := Br_189.cell 2
            have F := F_189
            go_wp2
            exact bodyPost_ret (v := .tuple #[chartV W H (.slice A1 xs.length c1), .int .i64 row, .int .i64 col, .int .i64 (IntKind.i64.wrap (x179 + x180)), .int .i64 (IntKind.i64.wrap (x187 + x188))]) (by simp [results, Try.results5, go_sem, g0, g1, g2]) rfl ⟨W, H, A1, c1, xs, _, _, _, _, rfl, hsm, ⟨by omega, by omega⟩, ⟨by omega, by omega⟩, wrap_i64 _, wrap_i64 _, F.1, F.2⟩
          refine AllReadyH.cons rfl (fun K hK => ?_) AllReadyH.nil
          go_simp
          have hal190 := (Below.refl (wq180).heap.size (wq180)).alloc (Nat.le_refl _) (.cells #[.int .i64 1, .int .i64 1, .int .i64 1, .int .i64 2, .int .i64 0] 3)
          have C_190 := C_180.all hal190
          have Bx_190 := Bx_180.all hal190
          have Br_190 := Br_180.all hal190
          have O_190 := O_180.all hal190
          have HH_190 := HH_180.alloc HH_180.size (.cells #[.int .i64 1, .int .i64 1, .int .i64 1, .int .i64 2, .int .i64 0] 3)
          have Lit11_190 := Lit11_180.all hal190
          have Lit22_190 : Blk _ (wq180.heap.size) _ _ := Blk.new (wq180) #[.int .i64 1, .int .i64 1, .int .i64 1, .int .i64 2, .int .i64 0] 3
          obtain ⟨q190, hq190⟩ : ∃ q, wq180.heap.size = q := ⟨_, rfl⟩
          rw [hq190] at Lit22_190 ⊢
          obtain ⟨wq190, hw190⟩ : ∃ v, (wq180).alloc (.cells #[.int .i64 1, .int .i64 1, .int .i64 1, .int .i64 2, .int .i64 0] 3) = v := ⟨_, rfl⟩
          rw [hw190] at C_190 Bx_190 Br_190 O_190 HH_190 Lit11_190 Lit22_190 ⊢
          have hqp190 : q190 ≠ (w.heap.size + 1) := by have := C_180.lt; omega
          clear hal190 hw190 hq190
          refine hK.out _ _ (by exact ⟨Bx_190.cell 0, Bx_190.cell 1, Bx_190.cell 2⟩) (fun hHeld => ?_)
          clear hK K
          (try simp only [Act.put, List.getElem_toArray, List.getElem_cons_zero, List.getElem_cons_succ, List.setIfInBounds_toArray, List.set_cons_zero, List.set_cons_succ])
          clear hHeld
          refine wpAnyH_ready (rs := [19]) (by kernel_rfl) (by simp) ?_
          refine AllReadyH.cons rfl (fun K hK => ?_) AllReadyH.nil
          go_simp
          refine (l1Most_v 1 (W - col) M2 _ KM2.out).mono ?_
          rintro e wq191 ⟨rfl, rfl⟩
          refine hK.out _ _ (by exact ⟨Bx_190.cell 0, Bx_190.cell 1, Bx_190.cell 2⟩) (fun hHeld => ?_)
          clear hK K
          (try simp only [Act.put, List.getElem_toArray, List.getElem_cons_zero, List.getElem_cons_succ, List.setIfInBounds_toArray, List.set_cons_zero, List.set_cons_succ])
          clear hHeld
          refine wpAnyH_ready (rs := [20]) (by kernel_rfl) (by simp) ?_
          refine AllReadyH.cons rfl (fun K hK => ?_) AllReadyH.nil
          go_simp
          refine (pick_any (w.heap.size + 1) (((((((0 + 1000) + 2) + 2) + 2) + 2) + 2) + 2) (M2) _ C_190 (by omega) (by omega) (by omega)).mono ?_
          rintro e wq192 ⟨x192, rfl, hx192, hc, hg⟩
          have C_192 := hc
          have Bx_192 := Bx_190.mark hg (fun z hz => by cases hz; omega)
          have Br_192 := Br_190.mark hg (fun z hz => by cases hz; omega)
          have O_192 := O_190.mark hg (fun z z' hz hz' => by cases hz; exact fun e => hne1 z' hz' e.symm)
          have HH_192 := HH_190.trans (grown_below (B := w.heap.size) hg (by omega) HH_190.size)
          have Lit11_192 := Lit11_190.mark hg (fun z hz => by cases hz; omega)
          have Lit22_192 := Lit22_190.mark hg (fun z hz => by cases hz; omega)
          clear hc hg
          refine hK.out _ _ (by exact ⟨Bx_192.cell 0, Bx_192.cell 1, Bx_192.cell 2⟩) (fun hHeld => ?_)
          clear hK K
          (try simp only [Act.put, List.getElem_toArray, List.getElem_cons_zero, List.getElem_cons_succ, List.setIfInBounds_toArray, List.set_cons_zero, List.set_cons_succ])
          clear hHeld
          refine wpAnyH_ready (rs := [23]) (by kernel_rfl) (by simp) ?_
          refine AllReadyH.cons rfl (fun K hK => ?_) AllReadyH.nil
          go_simp
          refine (among_any (w.heap.size + 1) ((((((((0 + 1000) + 2) + 2) + 2) + 2) + 2) + 2) + 2) q190 0 5 5 _ [1, 1, 1, 2, 0] _ C_192 (by omega) (lit_rd2 (xs := [1, 1, 1, 2, 0]) Lit22_192 (I64.lit (by decide)) (by decide)) (by omega) (by omega) (by omega)).mono ?_
          rintro e wq193 ⟨x193, rfl, _, hc, hg⟩
          have C_193 := hc
          have Bx_193 := Bx_192.mark hg (fun z hz => by cases hz; omega)
          have Br_193 := Br_192.mark hg (fun z hz => by cases hz; omega)
          have O_193 := O_192.mark hg (fun z z' hz hz' => by cases hz; exact fun e => hne1 z' hz' e.symm)
          have HH_193 := HH_192.trans (grown_below (B := w.heap.size) hg (by omega) HH_192.size)
          have Lit11_193 := Lit11_192.mark hg (fun z hz => by cases hz; omega)
          have Lit22_193 := Lit22_192.mark hg (fun z hz => by cases hz; omega)
          clear hc hg
          refine hK.out _ _ (by exact ⟨Bx_193.cell 0, Bx_193.cell 1, Bx_193.cell 2⟩) (fun hHeld => ?_)
          clear hK K
          (try simp only [Act.put, List.getElem_toArray, List.getElem_cons_zero, List.getElem_cons_succ, List.setIfInBounds_toArray, List.set_cons_zero, List.set_cons_succ])
          refine wpAnyH_take (i := 24) (v := ?_) rfl (by kernel_rfl) (by kernel_rfl) (by kernel_rfl) (fun _ _ _ h => h) (Or.inl ⟨by rfl, ?_⟩) (by assumption) ?_
          rotate_left
          · intro w hSw; (try dsimp only at hSw); go_simp; (try with_reducible rfl)
          (try simp only [Act.put, List.getElem_toArray, List.getElem_cons_zero, List.getElem_cons_succ, List.setIfInBounds_toArray, List.set_cons_zero, List.set_cons_succ])
          clear hHeld
          refine wpAnyH_ready (rs := [25]) (by kernel_rfl) (by simp) ?_
          refine AllReadyH.cons rfl (fun K hK => ?_) AllReadyH.nil
          have g0_194 := Br_193.cell 0
          have g1_194 := Br_193.cell 1
          have g2_194 := Br_193.cell 2
          have z0_194 := Br_193.frozen 0
          have z1_194 := Br_193.frozen 1
          have z2_194 := Br_193.frozen 2
          have F_194 := fin3 (p := w.heap.size) (a := .int .i64 W) (b := .int .i64 H) (c := .slice A1 xs.length c1) O_193 (row_ne' O_193.1 Br_193 (by decide)) HH_193 (Nat.le_refl _)
          have Bx_194 := Bx_193.far3' (p := w.heap.size) (a := .int .i64 W) (b := .int .i64 H) (c := .slice A1 xs.length c1) (by omega)
          have Br_194 := Br_193.put3' (.int .i64 W) (.int .i64 H) (.slice A1 xs.length c1)
          go_simp
          refine hK.out _ _ (by exact ⟨Bx_194.cell 0, Bx_194.cell 1, Bx_194.cell 2⟩) (fun hHeld => ?_)
          clear hK K
          (try simp only [Act.put, List.getElem_toArray, List.getElem_cons_zero, List.getElem_cons_succ, List.setIfInBounds_toArray, List.set_cons_zero, List.set_cons_succ])
          refine wpAnyH_take (i := 26) (v := ?_) rfl (by kernel_rfl) (by kernel_rfl) (by kernel_rfl) (fun _ _ _ h => h) (Or.inl ⟨by rfl, ?_⟩) (by assumption) ?_
          rotate_left
          · intro w hSw; (try dsimp only at hSw); go_simp; (try with_reducible rfl)
          (try simp only [Act.put, List.getElem_toArray, List.getElem_cons_zero, List.getElem_cons_succ, List.setIfInBounds_toArray, List.set_cons_zero, List.set_cons_succ])
          refine wpAnyH_take (i := 27) (v := ?_) rfl (by kernel_rfl) (by kernel_rfl) (by kernel_rfl) (fun _ _ _ h => h) (Or.inl ⟨by rfl, ?_⟩) (by assumption) ?_
          rotate_left
          · intro w hSw; (try dsimp only at hSw); go_simp; (try with_reducible rfl)
          (try simp only [Act.put, List.getElem_toArray, List.getElem_cons_zero, List.getElem_cons_succ, List.setIfInBounds_toArray, List.set_cons_zero, List.set_cons_succ])
          refine wpAnyH_take (i := 28) (v := ?_) rfl (by kernel_rfl) (by kernel_rfl) (by kernel_rfl) (fun _ _ _ h => h) (Or.inl ⟨by rfl, ?_⟩) (by assumption) ?_
          rotate_left
          · intro w hSw; (try dsimp only at hSw); go_simp; (try with_reducible rfl)
          (try simp only [Act.put, List.getElem_toArray, List.getElem_cons_zero, List.getElem_cons_succ, List.setIfInBounds_toArray, List.set_cons_zero, List.set_cons_succ])
          refine wpAnyH_take (i := 29) (v := ?_) rfl (by kernel_rfl) (by kernel_rfl) (by kernel_rfl) (fun _ _ _ h => h) (Or.inl ⟨by rfl, ?_⟩) (by assumption) ?_
          rotate_left
          · intro w hSw; (try dsimp only at hSw); go_simp; (try with_reducible rfl)
          (try simp only [Act.put, List.getElem_toArray, List.getElem_cons_zero, List.getElem_cons_succ, List.setIfInBounds_toArray, List.set_cons_zero, List.set_cons_succ])
          refine wpAnyH_done (by kernel_rfl) ?_ _
          refine NoPanic.normal ?_
          have g0 := Br_194.cell 0
          have g1 := Br_194.cell 1
          have g2 := Br_194.cell 2
          have F := F_194
          go_wp2
          exact bodyPost_ret (v := .tuple #[chartV W H (.slice A1 xs.length c1), .int .i64 row, .int .i64 col, .int .i64 (IntKind.i64.wrap (x179 + x180)), .int .i64 (IntKind.i64.wrap (x192 + x193))]) (by simp [results, Try.results5, go_sem, g0, g1, g2]) rfl ⟨W, H, A1, c1, xs, _, _, _, _, rfl, hsm, ⟨by omega, by omega⟩, ⟨by omega, by omega⟩, wrap_i64 _, wrap_i64 _, F.1, F.2⟩
        refine AllReadyH.cons rfl (fun K hK => ?_) AllReadyH.nil
        go_simp
        have hal195 := (Below.refl (wq179).heap.size (wq179)).alloc (Nat.le_refl _) (.cells #[.int .i64 1, .int .i64 1, .int .i64 1, .int .i64 2, .int .i64 0] 3)
        have C_195 := C_179.all hal195
        have Bx_195 := Bx_179.all hal195
        have Br_195 := Br_179.all hal195
        have O_195 := O_179.all hal195
        have HH_195 := HH_179.alloc HH_179.size (.cells #[.int .i64 1, .int .i64 1, .int .i64 1, .int .i64 2, .int .i64 0] 3)
        have Lit11_195 := Lit11_179.all hal195
        have Lit22_195 : Blk _ (wq179.heap.size) _ _ := Blk.new (wq179) #[.int .i64 1, .int .i64 1, .int .i64 1, .int .i64 2, .int .i64 0] 3
        obtain ⟨q195, hq195⟩ : ∃ q, wq179.heap.size = q := ⟨_, rfl⟩
        rw [hq195] at Lit22_195 ⊢
        obtain ⟨wq195, hw195⟩ : ∃ v, (wq179).alloc (.cells #[.int .i64 1, .int .i64 1, .int .i64 1, .int .i64 2, .int .i64 0] 3) = v := ⟨_, rfl⟩
        rw [hw195] at C_195 Bx_195 Br_195 O_195 HH_195 Lit11_195 Lit22_195 ⊢
        have hqp195 : q195 ≠ (w.heap.size + 1) := by have := C_179.lt; omega
        clear hal195 hw195 hq195
        refine hK.out _ _ (by exact ⟨Bx_195.cell 0, Bx_195.cell 1, Bx_195.cell 2⟩) (fun hHeld => ?_)
        clear hK K
        (try simp only [Act.put, List.getElem_toArray, List.getElem_cons_zero, List.getElem_cons_succ, List.setIfInBounds_toArray, List.set_cons_zero, List.set_cons_succ])
        clear hHeld
        refine wpAnyH_ready (rs := [12]) (by kernel_rfl) (by simp) ?_
        refine AllReadyH.cons rfl (fun K hK => ?_) AllReadyH.nil
        go_simp
        refine (among_any (w.heap.size + 1) ((((((0 + 1000) + 2) + 2) + 2) + 2) + 2) q177 0 5 5 _ [1, 1, 1, 2, 0] _ C_195 (by omega) (lit_rd2 (xs := [1, 1, 1, 2, 0]) Lit11_195 (I64.lit (by decide)) (by decide)) (by omega) (by omega) (by omega)).mono ?_
        rintro e wq196 ⟨x196, rfl, _, hc, hg⟩
        have C_196 := hc
        have Bx_196 := Bx_195.mark hg (fun z hz => by cases hz; omega)
        have Br_196 := Br_195.mark hg (fun z hz => by cases hz; omega)
        have O_196 := O_195.mark hg (fun z z' hz hz' => by cases hz; exact fun e => hne1 z' hz' e.symm)
        have HH_196 := HH_195.trans (grown_below (B := w.heap.size) hg (by omega) HH_195.size)
        have Lit11_196 := Lit11_195.mark hg (fun z hz => by cases hz; omega)
        have Lit22_196 := Lit22_195.mark hg (fun z hz => by cases hz; omega)
        clear hc hg
        refine hK.out _ _ (by exact ⟨Bx_196.cell 0, Bx_196.cell 1, Bx_196.cell 2⟩) (fun hHeld => ?_)
        clear hK K
        (try simp only [Act.put, List.getElem_toArray, List.getElem_cons_zero, List.getElem_cons_succ, List.setIfInBounds_toArray, List.set_cons_zero, List.set_cons_succ])
        refine wpAnyH_take (i := 13) (v := ?_) rfl (by kernel_rfl) (by kernel_rfl) (by kernel_rfl) (fun _ _ _ h => h) (Or.inl ⟨by rfl, ?_⟩) (by assumption) ?_
        rotate_left
        · intro w hSw; (try dsimp only at hSw); go_simp; (try with_reducible rfl)
        (try simp only [Act.put, List.getElem_toArray, List.getElem_cons_zero, List.getElem_cons_succ, List.setIfInBounds_toArray, List.set_cons_zero, List.set_cons_succ])
        clear hHeld
        refine wpAnyH_ready (rs := [19]) (by kernel_rfl) (by simp) ?_
        refine AllReadyH.cons rfl (fun K hK => ?_) AllReadyH.nil
        go_simp
        refine (l1Most_v 1 (W - col) M2 _ KM2.out).mono ?_
        rintro e wq197 ⟨rfl, rfl⟩
        refine hK.out _ _ (by exact ⟨Bx_196.cell 0, Bx_196.cell 1, Bx_196.cell 2⟩) (fun hHeld => ?_)
        clear hK K
        (try simp only [Act.put, List.getElem_toArray, List.getElem_cons_zero, List.getElem_cons_succ, List.setIfInBounds_toArray, List.set_cons_zero, List.set_cons_succ])
        clear hHeld
        refine wpAnyH_ready (rs := [20]) (by kernel_rfl) (by simp) ?_
        refine AllReadyH.cons rfl (fun K hK => ?_) AllReadyH.nil
        go_simp
        refine (pick_any (w.heap.size + 1) (((((((0 + 1000) + 2) + 2) + 2) + 2) + 2) + 2) (M2) _ C_196 (by omega) (by omega) (by omega)).mono ?_
        rintro e wq198 ⟨x198, rfl, hx198, hc, hg⟩
        have C_198 := hc
        have Bx_198 := Bx_196.mark hg (fun z hz => by cases hz; omega)
        have Br_198 := Br_196.mark hg (fun z hz => by cases hz; omega)
        have O_198 := O_196.mark hg (fun z z' hz hz' => by cases hz; exact fun e => hne1 z' hz' e.symm)
        have HH_198 := HH_196.trans (grown_below (B := w.heap.size) hg (by omega) HH_196.size)
        have Lit11_198 := Lit11_196.mark hg (fun z hz => by cases hz; omega)
        have Lit22_198 := Lit22_196.mark hg (fun z hz => by cases hz; omega)
        clear hc hg
        refine hK.out _ _ (by exact ⟨Bx_198.cell 0, Bx_198.cell 1, Bx_198.cell 2⟩) (fun hHeld => ?_)
        clear hK K
        (try simp only [Act.put, List.getElem_toArray, List.getElem_cons_zero, List.getElem_cons_succ, List.setIfInBounds_toArray, List.set_cons_zero, List.set_cons_succ])
        clear hHeld
        refine wpAnyH_ready (rs := [23]) (by kernel_rfl) (by simp) ?_
        refine AllReadyH.cons rfl (fun K hK => ?_) AllReadyH.nil
        go_simp
        refine (among_any (w.heap.size + 1) ((((((((0 + 1000) + 2) + 2) + 2) + 2) + 2) + 2) + 2) q195 0 5 5 _ [1, 1, 1, 2, 0] _ C_198 (by omega) (lit_rd2 (xs := [1, 1, 1, 2, 0]) Lit22_198 (I64.lit (by decide)) (by decide)) (by omega) (by omega) (by omega)).mono ?_
        rintro e wq199 ⟨x199, rfl, _, hc, hg⟩
        have C_199 := hc
        have Bx_199 := Bx_198.mark hg (fun z hz => by cases hz; omega)
        have Br_199 := Br_198.mark hg (fun z hz => by cases hz; omega)
        have O_199 := O_198.mark hg (fun z z' hz hz' => by cases hz; exact fun e => hne1 z' hz' e.symm)
        have HH_199 := HH_198.trans (grown_below (B := w.heap.size) hg (by omega) HH_198.size)
        have Lit11_199 := Lit11_198.mark hg (fun z hz => by cases hz; omega)
        have Lit22_199 := Lit22_198.mark hg (fun z hz => by cases hz; omega)
        clear hc hg
        refine hK.out _ _ (by exact ⟨Bx_199.cell 0, Bx_199.cell 1, Bx_199.cell 2⟩) (fun hHeld => ?_)
        clear hK K
        (try simp only [Act.put, List.getElem_toArray, List.getElem_cons_zero, List.getElem_cons_succ, List.setIfInBounds_toArray, List.set_cons_zero, List.set_cons_succ])
        refine wpAnyH_take (i := 24) (v := ?_) rfl (by kernel_rfl) (by kernel_rfl) (by kernel_rfl) (fun _ _ _ h => h) (Or.inl ⟨by rfl, ?_⟩) (by assumption) ?_
        rotate_left
        · intro w hSw; (try dsimp only at hSw); go_simp; (try with_reducible rfl)
        (try simp only [Act.put, List.getElem_toArray, List.getElem_cons_zero, List.getElem_cons_succ, List.setIfInBounds_toArray, List.set_cons_zero, List.set_cons_succ])
        clear hHeld
        refine wpAnyH_ready (rs := [25]) (by kernel_rfl) (by simp) ?_
        refine AllReadyH.cons rfl (fun K hK => ?_) AllReadyH.nil
        have g0_200 := Br_199.cell 0
        have g1_200 := Br_199.cell 1
        have g2_200 := Br_199.cell 2
        have z0_200 := Br_199.frozen 0
        have z1_200 := Br_199.frozen 1
        have z2_200 := Br_199.frozen 2
        have F_200 := fin3 (p := w.heap.size) (a := .int .i64 W) (b := .int .i64 H) (c := .slice A1 xs.length c1) O_199 (row_ne' O_199.1 Br_199 (by decide)) HH_199 (Nat.le_refl _)
        have Bx_200 := Bx_199.far3' (p := w.heap.size) (a := .int .i64 W) (b := .int .i64 H) (c := .slice A1 xs.length c1) (by omega)
        have Br_200 := Br_199.put3' (.int .i64 W) (.int .i64 H) (.slice A1 xs.length c1)
        go_simp
        refine hK.out _ _ (by exact ⟨Bx_200.cell 0, Bx_200.cell 1, Bx_200.cell 2⟩) (fun hHeld => ?_)
        clear hK K
        (try simp only [Act.put, List.getElem_toArray, List.getElem_cons_zero, List.getElem_cons_succ, List.setIfInBounds_toArray, List.set_cons_zero, List.set_cons_succ])
        refine wpAnyH_take (i := 26) (v := ?_) rfl (by kernel_rfl) (by kernel_rfl) (by kernel_rfl) (fun _ _ _ h => h) (Or.inl ⟨by rfl, ?_⟩) (by assumption) ?_
        rotate_left
        · intro w hSw; (try dsimp only at hSw); go_simp; (try with_reducible rfl)
        (try simp only [Act.put, List.getElem_toArray, List.getElem_cons_zero, List.getElem_cons_succ, List.setIfInBounds_toArray, List.set_cons_zero, List.set_cons_succ])
        refine wpAnyH_take (i := 27) (v := ?_) rfl (by kernel_rfl) (by kernel_rfl) (by kernel_rfl) (fun _ _ _ h => h) (Or.inl ⟨by rfl, ?_⟩) (by assumption) ?_
        rotate_left
        · intro w hSw; (try dsimp only at hSw); go_simp; (try with_reducible rfl)
        (try simp only [Act.put, List.getElem_toArray, List.getElem_cons_zero, List.getElem_cons_succ, List.setIfInBounds_toArray, List.set_cons_zero, List.set_cons_succ])
        refine wpAnyH_take (i := 28) (v := ?_) rfl (by kernel_rfl) (by kernel_rfl) (by kernel_rfl) (fun _ _ _ h => h) (Or.inl ⟨by rfl, ?_⟩) (by assumption) ?_
        rotate_left
        · intro w hSw; (try dsimp only at hSw); go_simp; (try with_reducible rfl)
        (try simp only [Act.put, List.getElem_toArray, List.getElem_cons_zero, List.getElem_cons_succ, List.setIfInBounds_toArray, List.set_cons_zero, List.set_cons_succ])
        refine wpAnyH_take (i := 29) (v := ?_) rfl (by kernel_rfl) (by kernel_rfl) (by kernel_rfl) (fun _ _ _ h => h) (Or.inl ⟨by rfl, ?_⟩) (by assumption) ?_
        rotate_left
        · intro w hSw; (try dsimp only at hSw); go_simp; (try with_reducible rfl)
        (try simp only [Act.put, List.getElem_toArray, List.getElem_cons_zero, List.getElem_cons_succ, List.setIfInBounds_toArray, List.set_cons_zero, List.set_cons_succ])
        refine wpAnyH_done (by kernel_rfl) ?_ _
        refine NoPanic.normal ?_
        have g0 := Br_200.cell 0
        have g1 := Br_200.cell 1
        have g2 := Br_200.cell 2
        have F := F_200
        go_wp2
        exact bodyPost_ret (v := .tuple #[chartV W H (.slice A1 xs.length c1), .int .i64 row, .int .i64 col, .int .i64 (IntKind.i64.wrap (x179 + x196)), .int .i64 (IntKind.i64.wrap (x198 + x199))]) (by simp [results, Try.results5, go_sem, g0, g1, g2]) rfl ⟨W, H, A1, c1, xs, _, _, _, _, rfl, hsm, ⟨by omega, by omega⟩, ⟨by omega, by omega⟩, wrap_i64 _, wrap_i64 _, F.1, F.2⟩
      refine AllReadyH.cons rfl (fun K hK => ?_) AllReadyH.nil
      go_simp
      have hal201 := (Below.refl (wq177).heap.size (wq177)).alloc (Nat.le_refl _) (.cells #[.int .i64 1, .int .i64 1, .int .i64 1, .int .i64 2, .int .i64 0] 3)
      have C_201 := C_177.all hal201
      have Bx_201 := Bx_177.all hal201
      have Br_201 := Br_177.all hal201
      have O_201 := O_177.all hal201
      have HH_201 := HH_177.alloc HH_177.size (.cells #[.int .i64 1, .int .i64 1, .int .i64 1, .int .i64 2, .int .i64 0] 3)
      have Lit11_201 := Lit11_177.all hal201
      have Lit22_201 : Blk _ (wq177.heap.size) _ _ := Blk.new (wq177) #[.int .i64 1, .int .i64 1, .int .i64 1, .int .i64 2, .int .i64 0] 3
      obtain ⟨q201, hq201⟩ : ∃ q, wq177.heap.size = q := ⟨_, rfl⟩
      rw [hq201] at Lit22_201 ⊢
      obtain ⟨wq201, hw201⟩ : ∃ v, (wq177).alloc (.cells #[.int .i64 1, .int .i64 1, .int .i64 1, .int .i64 2, .int .i64 0] 3) = v := ⟨_, rfl⟩
      rw [hw201] at C_201 Bx_201 Br_201 O_201 HH_201 Lit11_201 Lit22_201 ⊢
      have hqp201 : q201 ≠ (w.heap.size + 1) := by have := C_177.lt; omega
      clear hal201 hw201 hq201
      refine hK.out _ _ (by exact ⟨Bx_201.cell 0, Bx_201.cell 1, Bx_201.cell 2⟩) (fun hHeld => ?_)
      clear hK K
      (try simp only [Act.put, List.getElem_toArray, List.getElem_cons_zero, List.getElem_cons_succ, List.setIfInBounds_toArray, List.set_cons_zero, List.set_cons_succ])
      clear hHeld
      refine wpAnyH_ready (rs := [9]) (by kernel_rfl) (by simp) ?_
      refine AllReadyH.cons rfl (fun K hK => ?_) AllReadyH.nil
      go_simp
      refine (pick_any (w.heap.size + 1) (((((0 + 1000) + 2) + 2) + 2) + 2) (M1) _ C_201 (by omega) (by omega) (by omega)).mono ?_
      rintro e wq202 ⟨x202, rfl, hx202, hc, hg⟩
      have C_202 := hc
      have Bx_202 := Bx_201.mark hg (fun z hz => by cases hz; omega)
      have Br_202 := Br_201.mark hg (fun z hz => by cases hz; omega)
      have O_202 := O_201.mark hg (fun z z' hz hz' => by cases hz; exact fun e => hne1 z' hz' e.symm)
      have HH_202 := HH_201.trans (grown_below (B := w.heap.size) hg (by omega) HH_201.size)
      have Lit11_202 := Lit11_201.mark hg (fun z hz => by cases hz; omega)
      have Lit22_202 := Lit22_201.mark hg (fun z hz => by cases hz; omega)
      clear hc hg
      refine hK.out _ _ (by exact ⟨Bx_202.cell 0, Bx_202.cell 1, Bx_202.cell 2⟩) (fun hHeld => ?_)
      clear hK K
      (try simp only [Act.put, List.getElem_toArray, List.getElem_cons_zero, List.getElem_cons_succ, List.setIfInBounds_toArray, List.set_cons_zero, List.set_cons_succ])
      clear hHeld
      refine wpAnyH_ready (rs := [12]) (by kernel_rfl) (by simp) ?_
      refine AllReadyH.cons rfl (fun K hK => ?_) AllReadyH.nil
      go_simp
      refine (among_any (w.heap.size + 1) ((((((0 + 1000) + 2) + 2) + 2) + 2) + 2) q177 0 5 5 _ [1, 1, 1, 2, 0] _ C_202 (by omega) (lit_rd2 (xs := [1, 1, 1, 2, 0]) Lit11_202 (I64.lit (by decide)) (by decide)) (by omega) (by omega) (by omega)).mono ?_
      rintro e wq203 ⟨x203, rfl, _, hc, hg⟩
      have C_203 := hc
      have Bx_203 := Bx_202.mark hg (fun z hz => by cases hz; omega)
      have Br_203 := Br_202.mark hg (fun z hz => by cases hz; omega)
      have O_203 := O_202.mark hg (fun z z' hz hz' => by cases hz; exact fun e => hne1 z' hz' e.symm)
      have HH_203 := HH_202.trans (grown_below (B := w.heap.size) hg (by omega) HH_202.size)
      have Lit11_203 := Lit11_202.mark hg (fun z hz => by cases hz; omega)
      have Lit22_203 := Lit22_202.mark hg (fun z hz => by cases hz; omega)
      clear hc hg
      refine hK.out _ _ (by exact ⟨Bx_203.cell 0, Bx_203.cell 1, Bx_203.cell 2⟩) (fun hHeld => ?_)
      clear hK K
      (try simp only [Act.put, List.getElem_toArray, List.getElem_cons_zero, List.getElem_cons_succ, List.setIfInBounds_toArray, List.set_cons_zero, List.set_cons_succ])
      refine wpAnyH_take (i := 13) (v := ?_) rfl (by kernel_rfl) (by kernel_rfl) (by kernel_rfl) (fun _ _ _ h => h) (Or.inl ⟨by rfl, ?_⟩) (by assumption) ?_
      rotate_left
      · intro w hSw; (try dsimp only at hSw); go_simp; (try with_reducible rfl)
      (try simp only [Act.put, List.getElem_toArray, List.getElem_cons_zero, List.getElem_cons_succ, List.setIfInBounds_toArray, List.set_cons_zero, List.set_cons_succ])
      clear hHeld
      refine wpAnyH_ready (rs := [19]) (by kernel_rfl) (by simp) ?_
      refine AllReadyH.cons rfl (fun K hK => ?_) AllReadyH.nil
      go_simp
      refine (l1Most_v 1 (W - col) M2 _ KM2.out).mono ?_
      rintro e wq204 ⟨rfl, rfl⟩
      refine hK.out _ _ (by exact ⟨Bx_203.cell 0, Bx_203.cell 1, Bx_203.cell 2⟩) (fun hHeld => ?_)
      clear hK K
      (try simp only [Act.put, List.getElem_toArray, List.getElem_cons_zero, List.getElem_cons_succ, List.setIfInBounds_toArray, List.set_cons_zero, List.set_cons_succ])
      clear hHeld
      refine wpAnyH_ready (rs := [20]) (by kernel_rfl) (by simp) ?_
      refine AllReadyH.cons rfl (fun K hK => ?_) AllReadyH.nil
      go_simp
      refine (pick_any (w.heap.size + 1) (((((((0 + 1000) + 2) + 2) + 2) + 2) + 2) + 2) (M2) _ C_203 (by omega) (by omega) (by omega)).mono ?_
      rintro e wq205 ⟨x205, rfl, hx205, hc, hg⟩
      have C_205 := hc
      have Bx_205 := Bx_203.mark hg (fun z hz => by cases hz; omega)
      have Br_205 := Br_203.mark hg (fun z hz => by cases hz; omega)
      have O_205 := O_203.mark hg (fun z z' hz hz' => by cases hz; exact fun e => hne1 z' hz' e.symm)
      have HH_205 := HH_203.trans (grown_below (B := w.heap.size) hg (by omega) HH_203.size)
      have Lit11_205 := Lit11_203.mark hg (fun z hz => by cases hz; omega)
      have Lit22_205 := Lit22_203.mark hg (fun z hz => by cases hz; omega)
      clear hc hg
      refine hK.out _ _ (by exact ⟨Bx_205.cell 0, Bx_205.cell 1, Bx_205.cell 2⟩) (fun hHeld => ?_)
      clear hK K
      (try simp only [Act.put, List.getElem_toArray, List.getElem_cons_zero, List.getElem_cons_succ, List.setIfInBounds_toArray, List.set_cons_zero, List.set_cons_succ])
      clear hHeld
      refine wpAnyH_ready (rs := [23]) (by kernel_rfl) (by simp) ?_
      refine AllReadyH.cons rfl (fun K hK => ?_) AllReadyH.nil
      go_simp
      refine (among_any (w.heap.size + 1) ((((((((0 + 1000) + 2) + 2) + 2) + 2) + 2) + 2) + 2) q201 0 5 5 _ [1, 1, 1, 2, 0] _ C_205 (by omega) (lit_rd2 (xs := [1, 1, 1, 2, 0]) Lit22_205 (I64.lit (by decide)) (by decide)) (by omega) (by omega) (by omega)).mono ?_
      rintro e wq206 ⟨x206, rfl, _, hc, hg⟩
      have C_206 := hc
      have Bx_206 := Bx_205.mark hg (fun z hz => by cases hz; omega)
      have Br_206 := Br_205.mark hg (fun z hz => by cases hz; omega)
      have O_206 := O_205.mark hg (fun z z' hz hz' => by cases hz; exact fun e => hne1 z' hz' e.symm)
      have HH_206 := HH_205.trans (grown_below (B := w.heap.size) hg (by omega) HH_205.size)
      have Lit11_206 := Lit11_205.mark hg (fun z hz => by cases hz; omega)
      have Lit22_206 := Lit22_205.mark hg (fun z hz => by cases hz; omega)
      clear hc hg
      refine hK.out _ _ (by exact ⟨Bx_206.cell 0, Bx_206.cell 1, Bx_206.cell 2⟩) (fun hHeld => ?_)
      clear hK K
      (try simp only [Act.put, List.getElem_toArray, List.getElem_cons_zero, List.getElem_cons_succ, List.setIfInBounds_toArray, List.set_cons_zero, List.set_cons_succ])
      refine wpAnyH_take (i := 24) (v := ?_) rfl (by kernel_rfl) (by kernel_rfl) (by kernel_rfl) (fun _ _ _ h => h) (Or.inl ⟨by rfl, ?_⟩) (by assumption) ?_
      rotate_left
      · intro w hSw; (try dsimp only at hSw); go_simp; (try with_reducible rfl)
      (try simp only [Act.put, List.getElem_toArray, List.getElem_cons_zero, List.getElem_cons_succ, List.setIfInBounds_toArray, List.set_cons_zero, List.set_cons_succ])
      clear hHeld
      refine wpAnyH_ready (rs := [25]) (by kernel_rfl) (by simp) ?_
      refine AllReadyH.cons rfl (fun K hK => ?_) AllReadyH.nil
      have g0_207 := Br_206.cell 0
      have g1_207 := Br_206.cell 1
      have g2_207 := Br_206.cell 2
      have z0_207 := Br_206.frozen 0
      have z1_207 := Br_206.frozen 1
      have z2_207 := Br_206.frozen 2
      have F_207 := fin3 (p := w.heap.size) (a := .int .i64 W) (b := .int .i64 H) (c := .slice A1 xs.length c1) O_206 (row_ne' O_206.1 Br_206 (by decide)) HH_206 (Nat.le_refl _)
      have Bx_207 := Bx_206.far3' (p := w.heap.size) (a := .int .i64 W) (b := .int .i64 H) (c := .slice A1 xs.length c1) (by omega)
      have Br_207 := Br_206.put3' (.int .i64 W) (.int .i64 H) (.slice A1 xs.length c1)
      go_simp
      refine hK.out _ _ (by exact ⟨Bx_207.cell 0, Bx_207.cell 1, Bx_207.cell 2⟩) (fun hHeld => ?_)
      clear hK K
      (try simp only [Act.put, List.getElem_toArray, List.getElem_cons_zero, List.getElem_cons_succ, List.setIfInBounds_toArray, List.set_cons_zero, List.set_cons_succ])
      refine wpAnyH_take (i := 26) (v := ?_) rfl (by kernel_rfl) (by kernel_rfl) (by kernel_rfl) (fun _ _ _ h => h) (Or.inl ⟨by rfl, ?_⟩) (by assumption) ?_
      rotate_left
      · intro w hSw; (try dsimp only at hSw); go_simp; (try with_reducible rfl)
      (try simp only [Act.put, List.getElem_toArray, List.getElem_cons_zero, List.getElem_cons_succ, List.setIfInBounds_toArray, List.set_cons_zero, List.set_cons_succ])
      refine wpAnyH_take (i := 27) (v := ?_) rfl (by kernel_rfl) (by kernel_rfl) (by kernel_rfl) (fun _ _ _ h => h) (Or.inl ⟨by rfl, ?_⟩) (by assumption) ?_
      rotate_left
      · intro w hSw; (try dsimp only at hSw); go_simp; (try with_reducible rfl)
      (try simp only [Act.put, List.getElem_toArray, List.getElem_cons_zero, List.getElem_cons_succ, List.setIfInBounds_toArray, List.set_cons_zero, List.set_cons_succ])
      refine wpAnyH_take (i := 28) (v := ?_) rfl (by kernel_rfl) (by kernel_rfl) (by kernel_rfl) (fun _ _ _ h => h) (Or.inl ⟨by rfl, ?_⟩) (by assumption) ?_
      rotate_left
      · intro w hSw; (try dsimp only at hSw); go_simp; (try with_reducible rfl)
      (try simp only [Act.put, List.getElem_toArray, List.getElem_cons_zero, List.getElem_cons_succ, List.setIfInBounds_toArray, List.set_cons_zero, List.set_cons_succ])
      refine wpAnyH_take (i := 29) (v := ?_) rfl (by kernel_rfl) (by kernel_rfl) (by kernel_rfl) (fun _ _ _ h => h) (Or.inl ⟨by rfl, ?_⟩) (by assumption) ?_
      rotate_left
      · intro w hSw; (try dsimp only at hSw); go_simp; (try with_reducible rfl)
      (try simp only [Act.put, List.getElem_toArray, List.getElem_cons_zero, List.getElem_cons_succ, List.setIfInBounds_toArray, List.set_cons_zero, List.set_cons_succ])
      refine wpAnyH_done (by kernel_rfl) ?_ _
      refine NoPanic.normal ?_
      have g0 := Br_207.cell 0
      have g1 := Br_207.cell 1
      have g2 := Br_207.cell 2
      have F := F_207
      go_wp2
      exact bodyPost_ret (v := .tuple #[chartV W H (.slice A1 xs.length c1), .int .i64 row, .int .i64 col, .int .i64 (IntKind.i64.wrap (x202 + x203)), .int .i64 (IntKind.i64.wrap (x205 + x206))]) (by simp [results, Try.results5, go_sem, g0, g1, g2]) rfl ⟨W, H, A1, c1, xs, _, _, _, _, rfl, hsm, ⟨by omega, by omega⟩, ⟨by omega, by omega⟩, wrap_i64 _, wrap_i64 _, F.1, F.2⟩
    refine AllReadyH.cons rfl (fun K hK => ?_) AllReadyH.nil
    go_simp
    have hal208 := (Below.refl (wq177).heap.size (wq177)).alloc (Nat.le_refl _) (.cells #[.int .i64 1, .int .i64 1, .int .i64 1, .int .i64 2, .int .i64 0] 3)
    have C_208 := C_177.all hal208
    have Bx_208 := Bx_177.all hal208
    have Br_208 := Br_177.all hal208
    have O_208 := O_177.all hal208
    have HH_208 := HH_177.alloc HH_177.size (.cells #[.int .i64 1, .int .i64 1, .int .i64 1, .int .i64 2, .int .i64 0] 3)
    have Lit11_208 := Lit11_177.all hal208
    have Lit22_208 : Blk _ (wq177.heap.size) _ _ := Blk.new (wq177) #[.int .i64 1, .int .i64 1, .int .i64 1, .int .i64 2, .int .i64 0] 3
    obtain ⟨q208, hq208⟩ : ∃ q, wq177.heap.size = q := ⟨_, rfl⟩
    rw [hq208] at Lit22_208 ⊢
    obtain ⟨wq208, hw208⟩ : ∃ v, (wq177).alloc (.cells #[.int .i64 1, .int .i64 1, .int .i64 1, .int .i64 2, .int .i64 0] 3) = v := ⟨_, rfl⟩
    rw [hw208] at C_208 Bx_208 Br_208 O_208 HH_208 Lit11_208 Lit22_208 ⊢
    have hqp208 : q208 ≠ (w.heap.size + 1) := by have := C_177.lt; omega
    clear hal208 hw208 hq208
    refine hK.out _ _ (by exact ⟨Bx_208.cell 0, Bx_208.cell 1, Bx_208.cell 2⟩) (fun hHeld => ?_)
    clear hK K
    (try simp only [Act.put, List.getElem_toArray, List.getElem_cons_zero, List.getElem_cons_succ, List.setIfInBounds_toArray, List.set_cons_zero, List.set_cons_succ])
    clear hHeld
    refine wpAnyH_ready (rs := [8]) (by kernel_rfl) (by simp) ?_
    refine AllReadyH.cons rfl (fun K hK => ?_) AllReadyH.nil
    go_simp
    refine (l1Most_v 1 (H - row) M1 _ KM1.out).mono ?_
    rintro e wq209 ⟨rfl, rfl⟩
    refine hK.out _ _ (by exact ⟨Bx_208.cell 0, Bx_208.cell 1, Bx_208.cell 2⟩) (fun hHeld => ?_)
    clear hK K
    (try simp only [Act.put, List.getElem_toArray, List.getElem_cons_zero, List.getElem_cons_succ, List.setIfInBounds_toArray, List.set_cons_zero, List.set_cons_succ])
    clear hHeld
    refine wpAnyH_ready (rs := [9]) (by kernel_rfl) (by simp) ?_
    refine AllReadyH.cons rfl (fun K hK => ?_) AllReadyH.nil
    go_simp
    refine (pick_any (w.heap.size + 1) (((((0 + 1000) + 2) + 2) + 2) + 2) (M1) _ C_208 (by omega) (by omega) (by omega)).mono ?_
    rintro e wq210 ⟨x210, rfl, hx210, hc, hg⟩
    have C_210 := hc
    have Bx_210 := Bx_208.mark hg (fun z hz => by cases hz; omega)
    have Br_210 := Br_208.mark hg (fun z hz => by cases hz; omega)
    have O_210 := O_208.mark hg (fun z z' hz hz' => by cases hz; exact fun e => hne1 z' hz' e.symm)
    have HH_210 := HH_208.trans (grown_below (B := w.heap.size) hg (by omega) HH_208.size)
    have Lit11_210 := Lit11_208.mark hg (fun z hz => by cases hz; omega)
    have Lit22_210 := Lit22_208.mark hg (fun z hz => by cases hz; omega)
    clear hc hg
    refine hK.out _ _ (by exact ⟨Bx_210.cell 0, Bx_210.cell 1, Bx_210.cell 2⟩) (fun hHeld => ?_)
    clear hK K
    (try simp only [Act.put, List.getElem_toArray, List.getElem_cons_zero, List.getElem_cons_succ, List.setIfInBounds_toArray, List.set_cons_zero, List.set_cons_succ])
    clear hHeld
    refine wpAnyH_ready (rs := [12]) (by kernel_rfl) (by simp) ?_
    refine AllReadyH.cons rfl (fun K hK => ?_) AllReadyH.nil
    go_simp
    refine (among_any (w.heap.size + 1) ((((((0 + 1000) + 2) + 2) + 2) + 2) + 2) q177 0 5 5 _ [1, 1, 1, 2, 0] _ C_210 (by omega) (lit_rd2 (xs := [1, 1, 1, 2, 0]) Lit11_210 (I64.lit (by decide)) (by decide)) (by omega) (by omega) (by omega)).mono ?_
    rintro e wq211 ⟨x211, rfl, _, hc, hg⟩
    have C_211 := hc
    have Bx_211 := Bx_210.mark hg (fun z hz => by cases hz; omega)
    have Br_211 := Br_210.mark hg (fun z hz => by cases hz; omega)
    have O_211 := O_210.mark hg (fun z z' hz hz' => by cases hz; exact fun e => hne1 z' hz' e.symm)
    have HH_211 := HH_210.trans (grown_below (B := w.heap.size) hg (by omega) HH_210.size)
    have Lit11_211 := Lit11_210.mark hg (fun z hz => by cases hz; omega)
    have Lit22_211 := Lit22_210.mark hg (fun z hz => by cases hz; omega)
    clear hc hg
    refine hK.out _ _ (by exact ⟨Bx_211.cell 0, Bx_211.cell 1, Bx_211.cell 2⟩) (fun hHeld => ?_)
    clear hK K
    (try simp only [Act.put, List.getElem_toArray, List.getElem_cons_zero, List.getElem_cons_succ, List.setIfInBounds_toArray, List.set_cons_zero, List.set_cons_succ])
    refine wpAnyH_take (i := 13) (v := ?_) rfl (by kernel_rfl) (by kernel_rfl) (by kernel_rfl) (fun _ _ _ h => h) (Or.inl ⟨by rfl, ?_⟩) (by assumption) ?_
    rotate_left
    · intro w hSw; (try dsimp only at hSw); go_simp; (try with_reducible rfl)
    (try simp only [Act.put, List.getElem_toArray, List.getElem_cons_zero, List.getElem_cons_succ, List.setIfInBounds_toArray, List.set_cons_zero, List.set_cons_succ])
    clear hHeld
    refine wpAnyH_ready (rs := [19]) (by kernel_rfl) (by simp) ?_
    refine AllReadyH.cons rfl (fun K hK => ?_) AllReadyH.nil
    go_simp
    refine (l1Most_v 1 (W - col) M2 _ KM2.out).mono ?_
    rintro e wq212 ⟨rfl, rfl⟩
    refine hK.out _ _ (by exact ⟨Bx_211.cell 0, Bx_211.cell 1, Bx_211.cell 2⟩) (fun hHeld => ?_)
    clear hK K
    (try simp only [Act.put, List.getElem_toArray, List.getElem_cons_zero, List.getElem_cons_succ, List.setIfInBounds_toArray, List.set_cons_zero, List.set_cons_succ])
    clear hHeld
    refine wpAnyH_ready (rs := [20]) (by kernel_rfl) (by simp) ?_
    refine AllReadyH.cons rfl (fun K hK => ?_) AllReadyH.nil
    go_simp
    refine (pick_any (w.heap.size + 1) (((((((0 + 1000) + 2) + 2) + 2) + 2) + 2) + 2) (M2) _ C_211 (by omega) (by omega) (by omega)).mono ?_
    rintro e wq213 ⟨x213, rfl, hx213, hc, hg⟩
    have C_213 := hc
    have Bx_213 := Bx_211.mark hg (fun z hz => by cases hz; omega)
    have Br_213 := Br_211.mark hg (fun z hz => by cases hz; omega)
    have O_213 := O_211.mark hg (fun z z' hz hz' => by cases hz; exact fun e => hne1 z' hz' e.symm)
    have HH_213 := HH_211.trans (grown_below (B := w.heap.size) hg (by omega) HH_211.size)
    have Lit11_213 := Lit11_211.mark hg (fun z hz => by cases hz; omega)
    have Lit22_213 := Lit22_211.mark hg (fun z hz => by cases hz; omega)
    clear hc hg
    refine hK.out _ _ (by exact ⟨Bx_213.cell 0, Bx_213.cell 1, Bx_213.cell 2⟩) (fun hHeld => ?_)
    clear hK K
    (try simp only [Act.put, List.getElem_toArray, List.getElem_cons_zero, List.getElem_cons_succ, List.setIfInBounds_toArray, List.set_cons_zero, List.set_cons_succ])
    clear hHeld
    refine wpAnyH_ready (rs := [23]) (by kernel_rfl) (by simp) ?_
    refine AllReadyH.cons rfl (fun K hK => ?_) AllReadyH.nil
    go_simp
    refine (among_any (w.heap.size + 1) ((((((((0 + 1000) + 2) + 2) + 2) + 2) + 2) + 2) + 2) q208 0 5 5 _ [1, 1, 1, 2, 0] _ C_213 (by omega) (lit_rd2 (xs := [1, 1, 1, 2, 0]) Lit22_213 (I64.lit (by decide)) (by decide)) (by omega) (by omega) (by omega)).mono ?_
    rintro e wq214 ⟨x214, rfl, _, hc, hg⟩
    have C_214 := hc
    have Bx_214 := Bx_213.mark hg (fun z hz => by cases hz; omega)
    have Br_214 := Br_213.mark hg (fun z hz => by cases hz; omega)
    have O_214 := O_213.mark hg (fun z z' hz hz' => by cases hz; exact fun e => hne1 z' hz' e.symm)
    have HH_214 := HH_213.trans (grown_below (B := w.heap.size) hg (by omega) HH_213.size)
    have Lit11_214 := Lit11_213.mark hg (fun z hz => by cases hz; omega)
    have Lit22_214 := Lit22_213.mark hg (fun z hz => by cases hz; omega)
    clear hc hg
    refine hK.out _ _ (by exact ⟨Bx_214.cell 0, Bx_214.cell 1, Bx_214.cell 2⟩) (fun hHeld => ?_)
    clear hK K
    (try simp only [Act.put, List.getElem_toArray, List.getElem_cons_zero, List.getElem_cons_succ, List.setIfInBounds_toArray, List.set_cons_zero, List.set_cons_succ])
    refine wpAnyH_take (i := 24) (v := ?_) rfl (by kernel_rfl) (by kernel_rfl) (by kernel_rfl) (fun _ _ _ h => h) (Or.inl ⟨by rfl, ?_⟩) (by assumption) ?_
    rotate_left
    · intro w hSw; (try dsimp only at hSw); go_simp; (try with_reducible rfl)
    (try simp only [Act.put, List.getElem_toArray, List.getElem_cons_zero, List.getElem_cons_succ, List.setIfInBounds_toArray, List.set_cons_zero, List.set_cons_succ])
    clear hHeld
    refine wpAnyH_ready (rs := [25]) (by kernel_rfl) (by simp) ?_
    refine AllReadyH.cons rfl (fun K hK => ?_) AllReadyH.nil
    have g0_215 := Br_214.cell 0
    have g1_215 := Br_214.cell 1
    have g2_215 := Br_214.cell 2
    have z0_215 := Br_214.frozen 0
    have z1_215 := Br_214.frozen 1
    have z2_215 := Br_214.frozen 2
    have F_215 := fin3 (p := w.heap.size) (a := .int .i64 W) (b := .int .i64 H) (c := .slice A1 xs.length c1) O_214 (row_ne' O_214.1 Br_214 (by decide)) HH_214 (Nat.le_refl _)
    have Bx_215 := Bx_214.far3' (p := w.heap.size) (a := .int .i64 W) (b := .int .i64 H) (c := .slice A1 xs.length c1) (by omega)
    have Br_215 := Br_214.put3' (.int .i64 W) (.int .i64 H) (.slice A1 xs.length c1)
    go_simp
    refine hK.out _ _ (by exact ⟨Bx_215.cell 0, Bx_215.cell 1, Bx_215.cell 2⟩) (fun hHeld => ?_)
    clear hK K
    (try simp only [Act.put, List.getElem_toArray, List.getElem_cons_zero, List.getElem_cons_succ, List.setIfInBounds_toArray, List.set_cons_zero, List.set_cons_succ])
    refine wpAnyH_take (i := 26) (v := ?_) rfl (by kernel_rfl) (by kernel_rfl) (by kernel_rfl) (fun _ _ _ h => h) (Or.inl ⟨by rfl, ?_⟩) (by assumption) ?_
    rotate_left
    · intro w hSw; (try dsimp only at hSw); go_simp; (try with_reducible rfl)
    (try simp only [Act.put, List.getElem_toArray, List.getElem_cons_zero, List.getElem_cons_succ, List.setIfInBounds_toArray, List.set_cons_zero, List.set_cons_succ])
    refine wpAnyH_take (i := 27) (v := ?_) rfl (by kernel_rfl) (by kernel_rfl) (by kernel_rfl) (fun _ _ _ h => h) (Or.inl ⟨by rfl, ?_⟩) (by assumption) ?_
    rotate_left
    · intro w hSw; (try dsimp only at hSw); go_simp; (try with_reducible rfl)
    (try simp only [Act.put, List.getElem_toArray, List.getElem_cons_zero, List.getElem_cons_succ, List.setIfInBounds_toArray, List.set_cons_zero, List.set_cons_succ])
    refine wpAnyH_take (i := 28) (v := ?_) rfl (by kernel_rfl) (by kernel_rfl) (by kernel_rfl) (fun _ _ _ h => h) (Or.inl ⟨by rfl, ?_⟩) (by assumption) ?_
    rotate_left
    · intro w hSw; (try dsimp only at hSw); go_simp; (try with_reducible rfl)
    (try simp only [Act.put, List.getElem_toArray, List.getElem_cons_zero, List.getElem_cons_succ, List.setIfInBounds_toArray, List.set_cons_zero, List.set_cons_succ])
    refine wpAnyH_take (i := 29) (v := ?_) rfl (by kernel_rfl) (by kernel_rfl) (by kernel_rfl) (fun _ _ _ h => h) (Or.inl ⟨by rfl, ?_⟩) (by assumption) ?_
    rotate_left
    · intro w hSw; (try dsimp only at hSw); go_simp; (try with_reducible rfl)
    (try simp only [Act.put, List.getElem_toArray, List.getElem_cons_zero, List.getElem_cons_succ, List.setIfInBounds_toArray, List.set_cons_zero, List.set_cons_succ])
    refine wpAnyH_done (by kernel_rfl) ?_ _
    refine NoPanic.normal ?_
    have g0 := Br_215.cell 0
    have g1 := Br_215.cell 1
    have g2 := Br_215.cell 2
    have F := F_215
    go_wp2
    exact bodyPost_ret (v := .tuple #[chartV W H (.slice A1 xs.length c1), .int .i64 row, .int .i64 col, .int .i64 (IntKind.i64.wrap (x210 + x211)), .int .i64 (IntKind.i64.wrap (x213 + x214))]) (by simp [results, Try.results5, go_sem, g0, g1, g2]) rfl ⟨W, H, A1, c1, xs, _, _, _, _, rfl, hsm, ⟨by omega, by omega⟩, ⟨by omega, by omega⟩, wrap_i64 _, wrap_i64 _, F.1, F.2⟩
  refine AllReadyH.cons rfl (fun K hK => ?_) AllReadyH.nil
  go_simp
  have hal216 := (Below.refl (wd100).heap.size (wd100)).alloc (Nat.le_refl _) (.cells #[.int .i64 1, .int .i64 1, .int .i64 1, .int .i64 2, .int .i64 0] 3)
  have C_216 := C_0.all hal216
  have Bx_216 := Bx_0.all hal216
  have Br_216 := Br_0.all hal216
  have O_216 := O_0.all hal216
  have HH_216 := HH_0.alloc HH_0.size (.cells #[.int .i64 1, .int .i64 1, .int .i64 1, .int .i64 2, .int .i64 0] 3)
  have Lit22_216 : Blk _ (wd100.heap.size) _ _ := Blk.new (wd100) #[.int .i64 1, .int .i64 1, .int .i64 1, .int .i64 2, .int .i64 0] 3
  obtain ⟨q216, hq216⟩ : ∃ q, wd100.heap.size = q := ⟨_, rfl⟩
  rw [hq216] at Lit22_216 ⊢
  obtain ⟨wq216, hw216⟩ : ∃ v, (wd100).alloc (.cells #[.int .i64 1, .int .i64 1, .int .i64 1, .int .i64 2, .int .i64 0] 3) = v := ⟨_, rfl⟩
  rw [hw216] at C_216 Bx_216 Br_216 O_216 HH_216 Lit22_216 ⊢
  have hqp216 : q216 ≠ (w.heap.size + 1) := by have := C_0.lt; omega
  clear hal216 hw216 hq216
  refine hK.out _ _ (by exact ⟨Bx_216.cell 0, Bx_216.cell 1, Bx_216.cell 2⟩) (fun hHeld => ?_)
  clear hK K
  (try simp only [Act.put, List.getElem_toArray, List.getElem_cons_zero, List.getElem_cons_succ, List.setIfInBounds_toArray, List.set_cons_zero, List.set_cons_succ])
  clear hHeld
  refine wpAnyH_ready (rs := [8, 11]) (by kernel_rfl) (by simp) ?_
  refine AllReadyH.cons rfl (fun K hK => ?_) ?_
  · skip
    go_simp
    refine (l1Most_v 1 (H - row) M1 _ KM1.out).mono ?_
    rintro e wq217 ⟨rfl, rfl⟩
    refine hK.out _ _ (by exact ⟨Bx_216.cell 0, Bx_216.cell 1, Bx_216.cell 2⟩) (fun hHeld => ?_)
    clear hK K
    (try simp only [Act.put, List.getElem_toArray, List.getElem_cons_zero, List.getElem_cons_succ, List.setIfInBounds_toArray, List.set_cons_zero, List.set_cons_succ])
    clear hHeld
    refine wpAnyH_ready (rs := [9, 11]) (by kernel_rfl) (by simp) ?_
    refine AllReadyH.cons rfl (fun K hK => ?_) ?_
    · skip
      go_simp
      refine (pick_any (w.heap.size + 1) (((((0 + 1000) + 2) + 2) + 2) + 2) (M1) _ C_216 (by omega) (by omega) (by omega)).mono ?_
      rintro e wq218 ⟨x218, rfl, hx218, hc, hg⟩
      have C_218 := hc
      have Bx_218 := Bx_216.mark hg (fun z hz => by cases hz; omega)
      have Br_218 := Br_216.mark hg (fun z hz => by cases hz; omega)
      have O_218 := O_216.mark hg (fun z z' hz hz' => by cases hz; exact fun e => hne1 z' hz' e.symm)
      have HH_218 := HH_216.trans (grown_below (B := w.heap.size) hg (by omega) HH_216.size)
      have Lit22_218 := Lit22_216.mark hg (fun z hz => by cases hz; omega)
      clear hc hg
      refine hK.out _ _ (by exact ⟨Bx_218.cell 0, Bx_218.cell 1, Bx_218.cell 2⟩) (fun hHeld => ?_)
      clear hK K
      (try simp only [Act.put, List.getElem_toArray, List.getElem_cons_zero, List.getElem_cons_succ, List.setIfInBounds_toArray, List.set_cons_zero, List.set_cons_succ])
      clear hHeld
      refine wpAnyH_ready (rs := [11]) (by kernel_rfl) (by simp) ?_
      refine AllReadyH.cons rfl (fun K hK => ?_) AllReadyH.nil
      go_simp
      have hal219 := (Below.refl (wq218).heap.size (wq218)).alloc (Nat.le_refl _) (.cells #[.int .i64 1, .int .i64 1, .int .i64 1, .int .i64 2, .int .i64 0] 3)
      have C_219 := C_218.all hal219
      have Bx_219 := Bx_218.all hal219
      have Br_219 := Br_218.all hal219
      have O_219 := O_218.all hal219
      have HH_219 := HH_218.alloc HH_218.size (.cells #[.int .i64 1, .int .i64 1, .int .i64 1, .int .i64 2, .int .i64 0] 3)
      have Lit22_219 := Lit22_218.all hal219
      have Lit11_219 : Blk _ (wq218.heap.size) _ _ := Blk.new (wq218) #[.int .i64 1, .int .i64 1, .int .i64 1, .int .i64 2, .int .i64 0] 3
      obtain ⟨q219, hq219⟩ : ∃ q, wq218.heap.size = q := ⟨_, rfl⟩
      rw [hq219] at Lit11_219 ⊢
      obtain ⟨wq219, hw219⟩ : ∃ v, (wq218).alloc (.cells #[.int .i64 1, .int .i64 1, .int .i64 1, .int .i64 2, .int .i64 0] 3) = v := ⟨_, rfl⟩
      rw [hw219] at C_219 Bx_219 Br_219 O_219 HH_219 Lit22_219 Lit11_219 ⊢
      have hqp219 : q219 ≠ (w.heap.size + 1) := by have := C_218.lt; omega
      clear hal219 hw219 hq219
      refine hK.out _ _ (by exact ⟨Bx_219.cell 0, Bx_219.cell 1, Bx_219.cell 2⟩) (fun hHeld => ?_)
      clear hK K
      (try simp only [Act.put, List.getElem_toArray, List.getElem_cons_zero, List.getElem_cons_succ, List.setIfInBounds_toArray, List.set_cons_zero, List.set_cons_succ])
      clear hHeld
      refine wpAnyH_ready (rs := [12]) (by kernel_rfl) (by simp) ?_
      refine AllReadyH.cons rfl (fun K hK => ?_) AllReadyH.nil
      go_simp
      refine (among_any (w.heap.size + 1) ((((((0 + 1000) + 2) + 2) + 2) + 2) + 2) q219 0 5 5 _ [1, 1, 1, 2, 0] _ C_219 (by omega) (lit_rd2 (xs := [1, 1, 1, 2, 0]) Lit11_219 (I64.lit (by decide)) (by decide)) (by omega) (by omega) (by omega)).mono ?_
      rintro e wq220 ⟨x220, rfl, _, hc, hg⟩
      have C_220 := hc
      have Bx_220 := Bx_219.mark hg (fun z hz => by cases hz; omega)
      have Br_220 := Br_219.mark hg (fun z hz => by cases hz; omega)
      have O_220 := O_219.mark hg (fun z z' hz hz' => by cases hz; exact fun e => hne1 z' hz' e.symm)
      have HH_220 := HH_219.trans (grown_below (B := w.heap.size) hg (by omega) HH_219.size)
      have Lit22_220 := Lit22_219.mark hg (fun z hz => by cases hz; omega)
      have Lit11_220 := Lit11_219.mark hg (fun z hz => by cases hz; omega)
      clear hc hg
      refine hK.out _ _ (by exact ⟨Bx_220.cell 0, Bx_220.cell 1, Bx_220.cell 2⟩) (fun hHeld => ?_)
      clear hK K
      (try simp only [Act.put, List.getElem_toArray, List.getElem_cons_zero, List.getElem_cons_succ, List.setIfInBounds_toArray, List.set_cons_zero, List.set_cons_succ])
      refine wpAnyH_take (i := 13) (v := ?_) rfl (by kernel_rfl) (by kernel_rfl) (by kernel_rfl) (fun _ _ _ h => h) (Or.inl ⟨by rfl, ?_⟩) (by assumption) ?_
      rotate_left
      · intro w hSw; (try dsimp only at hSw); go_simp; (try with_reducible rfl)
      (try simp only [Act.put, List.getElem_toArray, List.getElem_cons_zero, List.getElem_cons_succ, List.setIfInBounds_toArray, List.set_cons_zero, List.set_cons_succ])
      clear hHeld
      refine wpAnyH_ready (rs := [19]) (by kernel_rfl) (by simp) ?_
      refine AllReadyH.cons rfl (fun K hK => ?_) AllReadyH.nil
      go_simp
      refine (l1Most_v 1 (W - col) M2 _ KM2.out).mono ?_
      rintro e wq221 ⟨rfl, rfl⟩
      refine hK.out _ _ (by exact ⟨Bx_220.cell 0, Bx_220.cell 1, Bx_220.cell 2⟩) (fun hHeld => ?_)
      clear hK K
      (try simp only [Act.put, List.getElem_toArray, List.getElem_cons_zero, List.getElem_cons_succ, List.setIfInBounds_toArray, List.set_cons_zero, List.set_cons_succ])
      clear hHeld
      refine wpAnyH_ready (rs := [20]) (by kernel_rfl) (by simp) ?_
      refine AllReadyH.cons rfl (fun K hK => ?_) AllReadyH.nil
      go_simp
      refine (pick_any (w.heap.size + 1) (((((((0 + 1000) + 2) + 2) + 2) + 2) + 2) + 2) (M2) _ C_220 (by omega) (by omega) (by omega)).mono ?_
      rintro e wq222 ⟨x222, rfl, hx222, hc, hg⟩
      have C_222 := hc
      have Bx_222 := Bx_220.mark hg (fun z hz => by cases hz; omega)
      have Br_222 := Br_220.mark hg (fun z hz => by cases hz; omega)
      have O_222 := O_220.mark hg (fun z z' hz hz' => by cases hz; exact fun e => hne1 z' hz' e.symm)
      have HH_222 := HH_220.trans (grown_below (B := w.heap.size) hg (by omega) HH_220.size)
      have Lit22_222 := Lit22_220.mark hg (fun z hz => by cases hz; omega)
      have Lit11_222 := Lit11_220.mark hg (fun z hz => by cases hz; omega)
      clear hc hg
      refine hK.out _ _ (by exact ⟨Bx_222.cell 0, Bx_222.cell 1, Bx_222.cell 2⟩) (fun hHeld => ?_)
      clear hK K
      (try simp only [Act.put, List.getElem_toArray, List.getElem_cons_zero, List.getElem_cons_succ, List.setIfInBounds_toArray, List.set_cons_zero, List.set_cons_succ])
      clear hHeld
      refine wpAnyH_ready (rs := [23]) (by kernel_rfl) (by simp) ?_
      refine AllReadyH.cons rfl (fun K hK => ?_) AllReadyH.nil
      go_simp
      refine (among_any (w.heap.size + 1) ((((((((0 + 1000) + 2) + 2) + 2) + 2) + 2) + 2) + 2) q216 0 5 5 _ [1, 1, 1, 2, 0] _ C_222 (by omega) (lit_rd2 (xs := [1, 1, 1, 2, 0]) Lit22_222 (I64.lit (by decide)) (by decide)) (by omega) (by omega) (by omega)).mono ?_
      rintro e wq223 ⟨x223, rfl, _, hc, hg⟩
      have C_223 := hc
      have Bx_223 := Bx_222.mark hg (fun z hz => by cases hz; omega)
      have Br_223 := Br_222.mark hg (fun z hz => by cases hz; omega)
      have O_223 := O_222.mark hg (fun z z' hz hz' => by cases hz; exact fun e => hne1 z' hz' e.symm)
      have HH_223 := HH_222.trans (grown_below (B := w.heap.size) hg (by omega) HH_222.size)
      have Lit22_223 := Lit22_222.mark hg (fun z hz => by cases hz; omega)
      have Lit11_223 := Lit11_222.mark hg (fun z hz => by cases hz; omega)
      clear hc hg
      refine hK.out _ _ (by exact ⟨Bx_223.cell 0, Bx_223.cell 1, Bx_223.cell 2⟩) (fun hHeld => ?_)
      clear hK K
      (try simp only [Act.put, List.getElem_toArray, List.getElem_cons_zero, List.getElem_cons_succ, List.setIfInBounds_toArray, List.set_cons_zero, List.set_cons_succ])
      refine wpAnyH_take (i := 24) (v := ?_) rfl (by kernel_rfl) (by kernel_rfl) (by kernel_rfl) (fun _ _ _ h => h) (Or.inl ⟨by rfl, ?_⟩) (by assumption) ?_
      rotate_left
      · intro w hSw; (try dsimp only at hSw); go_simp; (try with_reducible rfl)
      (try simp only [Act.put, List.getElem_toArray, List.getElem_cons_zero, List.getElem_cons_succ, List.setIfInBounds_toArray, List.set_cons_zero, List.set_cons_succ])
      clear hHeld
      refine wpAnyH_ready (rs := [25]) (by kernel_rfl) (by simp) ?_
      refine AllReadyH.cons rfl (fun K hK => ?_) AllReadyH.nil
      have g0_224 := Br_223.cell 0
      have g1_224 := Br_223.cell 1
      have g2_224 := Br_223.cell 2
      have z0_224 := Br_223.frozen 0
      have z1_224 := Br_223.frozen 1
      have z2_224 := Br_223.frozen 2
      have F_224 := fin3 (p := w.heap.size) (a := .int .i64 W) (b := .int .i64 H) (c := .slice A1 xs.length c1) O_223 (row_ne' O_223.1 Br_223 (by decide)) HH_223 (Nat.le_refl _)
      have Bx_224 := Bx_223.far3' (p := w.heap.size) (a := .int .i64 W) (b := .int .i64 H) (c := .slice A1 xs.length c1) (by omega)
      have Br_224 := Br_223.put3' (.int .i64 W) (.int .i64 H) (.slice A1 xs.length c1)
      go_simp
      refine hK.out _ _ (by exact ⟨Bx_224.cell 0, Bx_224.cell 1, Bx_224.cell 2⟩) (fun hHeld => ?_)
      clear hK K
      (try simp only [Act.put, List.getElem_toArray, List.getElem_cons_zero, List.getElem_cons_succ, List.setIfInBounds_toArray, List.set_cons_zero, List.set_cons_succ])
      refine wpAnyH_take (i := 26) (v := ?_) rfl (by kernel_rfl) (by kernel_rfl) (by kernel_rfl) (fun _ _ _ h => h) (Or.inl ⟨by rfl, ?_⟩) (by assumption) ?_
      rotate_left
      · intro w hSw; (try dsimp only at hSw); go_simp; (try with_reducible rfl)
      (try simp only [Act.put, List.getElem_toArray, List.getElem_cons_zero, List.getElem_cons_succ, List.setIfInBounds_toArray, List.set_cons_zero, List.set_cons_succ])
      refine wpAnyH_take (i := 27) (v := ?_) rfl (by kernel_rfl) (by kernel_rfl) (by kernel_rfl) (fun _ _ _ h => h) (Or.inl ⟨by rfl, ?_⟩) (by assumption) ?_
      rotate_left
      · intro w hSw; (try dsimp only at hSw); go_simp; (try with_reducible rfl)
      (try simp only [Act.put, List.getElem_toArray, List.getElem_cons_zero, List.getElem_cons_succ, List.setIfInBounds_toArray, List.set_cons_zero, List.set_cons_succ])
      refine wpAnyH_take (i := 28) (v := ?_) rfl (by kernel_rfl) (by kernel_rfl) (by kernel_rfl) (fun _ _ _ h => h) (Or.inl ⟨by rfl, ?_⟩) (by assumption) ?_
      rotate_left
      · intro w hSw; (try dsimp only at hSw); go_simp; (try with_reducible rfl)
      (try simp only [Act.put, List.getElem_toArray, List.getElem_cons_zero, List.getElem_cons_succ, List.setIfInBounds_toArray, List.set_cons_zero, List.set_cons_succ])
      refine wpAnyH_take (i := 29) (v := ?_) rfl (by kernel_rfl) (by kernel_rfl) (by kernel_rfl) (fun _ _ _ h => h) (Or.inl ⟨by rfl, ?_⟩) (by assumption) ?_
      rotate_left
      · intro w hSw; (try dsimp only at hSw); go_simp; (try with_reducible rfl)
      (try simp only [Act.put, List.getElem_toArray, List.getElem_cons_zero, List.getElem_cons_succ, List.setIfInBounds_toArray, List.set_cons_zero, List.set_cons_succ])
      refine wpAnyH_done (by kernel_rfl) ?_ _
      refine NoPanic.normal ?_
      have g0 := Br_224.cell 0
      have g1 := Br_224.cell 1
      have g2 := Br_224.cell 2
      have F := F_224
      go_wp2
      exact bodyPost_ret (v := .tuple #[chartV W H (.slice A1 xs.length c1), .int .i64 row, .int .i64 col, .int .i64 (IntKind.i64.wrap (x218 + x220)), .int .i64 (IntKind.i64.wrap (x222 + x223))]) (by simp [results, Try.results5, go_sem, g0, g1, g2]) rfl ⟨W, H, A1, c1, xs, _, _, _, _, rfl, hsm, ⟨by omega, by omega⟩, ⟨by omega, by omega⟩, wrap_i64 _, wrap_i64 _, F.1, F.2⟩
    refine AllReadyH.cons rfl (fun K hK => ?_) AllReadyH.nil
    go_simp
    have hal225 := (Below.refl (wq216).heap.size (wq216)).alloc (Nat.le_refl _) (.cells #[.int .i64 1, .int .i64 1, .int .i64 1, .int .i64 2, .int .i64 0] 3)
    have C_225 := C_216.all hal225
    have Bx_225 := Bx_216.all hal225
    have Br_225 := Br_216.all hal225
    have O_225 := O_216.all hal225
    have HH_225 := HH_216.alloc HH_216.size (.cells #[.int .i64 1, .int .i64 1, .int .i64 1, .int .i64 2, .int .i64 0] 3)
    have Lit22_225 := Lit22_216.all hal225
    have Lit11_225 : Blk _ (wq216.heap.size) _ _ := Blk.new (wq216) #[.int .i64 1, .int .i64 1, .int .i64 1, .int .i64 2, .int .i64 0] 3
    obtain ⟨q225, hq225⟩ : ∃ q, wq216.heap.size = q := ⟨_, rfl⟩
    rw [hq225] at Lit11_225 ⊢
    obtain ⟨wq225, hw225⟩ : ∃ v, (wq216).alloc (.cells #[.int .i64 1, .int .i64 1, .int .i64 1, .int .i64 2, .int .i64 0] 3) = v := ⟨_, rfl⟩
    rw [hw225] at C_225 Bx_225 Br_225 O_225 HH_225 Lit22_225 Lit11_225 ⊢
    have hqp225 : q225 ≠ (w.heap.size + 1) := by have := C_216.lt; omega
    clear hal225 hw225 hq225
    refine hK.out _ _ (by exact ⟨Bx_225.cell 0, Bx_225.cell 1, Bx_225.cell 2⟩) (fun hHeld => ?_)
    clear hK K
    (try simp only [Act.put, List.getElem_toArray, List.getElem_cons_zero, List.getElem_cons_succ, List.setIfInBounds_toArray, List.set_cons_zero, List.set_cons_succ])
    clear hHeld
    refine wpAnyH_ready (rs := [9]) (by kernel_rfl) (by simp) ?_
    refine AllReadyH.cons rfl (fun K hK => ?_) AllReadyH.nil
    go_simp
    refine (pick_any (w.heap.size + 1) (((((0 + 1000) + 2) + 2) + 2) + 2) (M1) _ C_225 (by omega) (by omega) (by omega)).mono ?_
    rintro e wq226 ⟨x226, rfl, hx226, hc, hg⟩
    have C_226 := hc
    have Bx_226 := Bx_225.mark hg (fun z hz => by cases hz; omega)
    have Br_226 := Br_225.mark hg (fun z hz => by cases hz; omega)
    have O_226 := O_225.mark hg (fun z z' hz hz' => by cases hz; exact fun e => hne1 z' hz' e.symm)
    have HH_226 := HH_225.trans (grown_below (B := w.heap.size) hg (by omega) HH_225.size)
    have Lit22_226 := Lit22_225.mark hg (fun z hz => by cases hz; omega)
    have Lit11_226 := Lit11_225.mark hg (fun z hz => by cases hz; omega)
    clear hc hg
    refine hK.out _ _ (by exact ⟨Bx_226.cell 0, Bx_226.cell 1, Bx_226.cell 2⟩) (fun hHeld => ?_)
    clear hK K
    (try simp only [Act.put, List.getElem_toArray, List.getElem_cons_zero, List.getElem_cons_succ, List.setIfInBounds_toArray, List.set_cons_zero, List.set_cons_succ])
    clear hHeld
    refine wpAnyH_ready (rs := [12]) (by kernel_rfl) (by simp) ?_
    refine AllReadyH.cons rfl (fun K hK => ?_) AllReadyH.nil
    go_simp
    refine (among_any (w.heap.size + 1) ((((((0 + 1000) + 2) + 2) + 2) + 2) + 2) q225 0 5 5 _ [1, 1, 1, 2, 0] _ C_226 (by omega) (lit_rd2 (xs := [1, 1, 1, 2, 0]) Lit11_226 (I64.lit (by decide)) (by decide)) (by omega) (by omega) (by omega)).mono ?_
    rintro e wq227 ⟨x227, rfl, _, hc, hg⟩
    have C_227 := hc
    have Bx_227 := Bx_226.mark hg (fun z hz => by cases hz; omega)
    have Br_227 := Br_226.mark hg (fun z hz => by cases hz; omega)
    have O_227 := O_226.mark hg (fun z z' hz hz' => by cases hz; exact fun e => hne1 z' hz' e.symm)
    have HH_227 := HH_226.trans (grown_below (B := w.heap.size) hg (by omega) HH_226.size)
    have Lit22_227 := Lit22_226.mark hg (fun z hz => by cases hz; omega)
    have Lit11_227 := Lit11_226.mark hg (fun z hz => by cases hz; omega)
    clear hc hg
    refine hK.out _ _ (by exact ⟨Bx_227.cell 0, Bx_227.cell 1, Bx_227.cell 2⟩) (fun hHeld => ?_)
    clear hK K
    (try simp only [Act.put, List.getElem_toArray, List.getElem_cons_zero, List.getElem_cons_succ, List.setIfInBounds_toArray, List.set_cons_zero, List.set_cons_succ])
    refine wpAnyH_take (i := 13) (v := ?_) rfl (by kernel_rfl) (by kernel_rfl) (by kernel_rfl) (fun _ _ _ h => h) (Or.inl ⟨by rfl, ?_⟩) (by assumption) ?_
    rotate_left
    · intro w hSw; (try dsimp only at hSw); go_simp; (try with_reducible rfl)
    (try simp only [Act.put, List.getElem_toArray, List.getElem_cons_zero, List.getElem_cons_succ, List.setIfInBounds_toArray, List.set_cons_zero, List.set_cons_succ])
    clear hHeld
    refine wpAnyH_ready (rs := [19]) (by kernel_rfl) (by simp) ?_
    refine AllReadyH.cons rfl (fun K hK => ?_) AllReadyH.nil
    go_simp
    refine (l1Most_v 1 (W - col) M2 _ KM2.out).mono ?_
    rintro e wq228 ⟨rfl, rfl⟩
    refine hK.out _ _ (by exact ⟨Bx_227.cell 0, Bx_227.cell 1, Bx_227.cell 2⟩) (fun hHeld => ?_)
    clear hK K
    (try simp only [Act.put, List.getElem_toArray, List.getElem_cons_zero, List.getElem_cons_succ, List.setIfInBounds_toArray, List.set_cons_zero, List.set_cons_succ])
    clear hHeld
    refine wpAnyH_ready (rs := [20]) (by kernel_rfl) (by simp) ?_
    refine AllReadyH.cons rfl (fun K hK => ?_) AllReadyH.nil
    go_simp
    refine (pick_any (w.heap.size + 1) (((((((0 + 1000) + 2) + 2) + 2) + 2) + 2) + 2) (M2) _ C_227 (by omega) (by omega) (by omega)).mono ?_
    rintro e wq229 ⟨x229, rfl, hx229, hc, hg⟩
    have C_229 := hc
    have Bx_229 := Bx_227.mark hg (fun z hz => by cases hz; omega)
    have Br_229 := Br_227.mark hg (fun z hz => by cases hz; omega)
    have O_229 := O_227.mark hg (fun z z' hz hz' => by cases hz; exact fun e => hne1 z' hz' e.symm)
    have HH_229 := HH_227.trans (grown_below (B := w.heap.size) hg (by omega) HH_227.size)
    have Lit22_229 := Lit22_227.mark hg (fun z hz => by cases hz; omega)
    have Lit11_229 := Lit11_227.mark hg (fun z hz => by cases hz; omega)
    clear hc hg
    refine hK.out _ _ (by exact ⟨Bx_229.cell 0, Bx_229.cell 1, Bx_229.cell 2⟩) (fun hHeld => ?_)
    clear hK K
    (try simp only [Act.put, List.getElem_toArray, List.getElem_cons_zero, List.getElem_cons_succ, List.setIfInBounds_toArray, List.set_cons_zero, List.set_cons_succ])
    clear hHeld
    refine wpAnyH_ready (rs := [23]) (by kernel_rfl) (by simp) ?_
    refine AllReadyH.cons rfl (fun K hK => ?_) AllReadyH.nil
    go_simp
    refine (among_any (w.heap.size + 1) ((((((((0 + 1000) + 2) + 2) + 2) + 2) + 2) + 2) + 2) q216 0 5 5 _ [1, 1, 1, 2, 0] _ C_229 (by omega) (lit_rd2 (xs := [1, 1, 1, 2, 0]) Lit22_229 (I64.lit (by decide)) (by decide)) (by omega) (by omega) (by omega)).mono ?_
    rintro e wq230 ⟨x230, rfl, _, hc, hg⟩
    have C_230 := hc
    have Bx_230 := Bx_229.mark hg (fun z hz => by cases hz; omega)
    have Br_230 := Br_229.mark hg (fun z hz => by cases hz; omega)
    have O_230 := O_229.mark hg (fun z z' hz hz' => by cases hz; exact fun e => hne1 z' hz' e.symm)
    have HH_230 := HH_229.trans (grown_below (B := w.heap.size) hg (by omega) HH_229.size)
    have Lit22_230 := Lit22_229.mark hg (fun z hz => by cases hz; omega)
    have Lit11_230 := Lit11_229.mark hg (fun z hz => by cases hz; omega)
    clear hc hg
    refine hK.out _ _ (by exact ⟨Bx_230.cell 0, Bx_230.cell 1, Bx_230.cell 2⟩) (fun hHeld => ?_)
    clear hK K
    (try simp only [Act.put, List.getElem_toArray, List.getElem_cons_zero, List.getElem_cons_succ, List.setIfInBounds_toArray, List.set_cons_zero, List.set_cons_succ])
    refine wpAnyH_take (i := 24) (v := ?_) rfl (by kernel_rfl) (by kernel_rfl) (by kernel_rfl) (fun _ _ _ h => h) (Or.inl ⟨by rfl, ?_⟩) (by assumption) ?_
    rotate_left
    · intro w hSw; (try dsimp only at hSw); go_simp; (try with_reducible rfl)
    (try simp only [Act.put, List.getElem_toArray, List.getElem_cons_zero, List.getElem_cons_succ, List.setIfInBounds_toArray, List.set_cons_zero, List.set_cons_succ])
    clear hHeld
    refine wpAnyH_ready (rs := [25]) (by kernel_rfl) (by simp) ?_
    refine AllReadyH.cons rfl (fun K hK => ?_) AllReadyH.nil
    have g0_231 := Br_230.cell 0
    have g1_231 := Br_230.cell 1
    have g2_231 := Br_230.cell 2
    have z0_231 := Br_230.frozen 0
    have z1_231 := Br_230.frozen 1
    have z2_231 := Br_230.frozen 2
    have F_231 := fin3 (p := w.heap.size) (a := .int .i64 W) (b := .int .i64 H) (c := .slice A1 xs.length c1) O_230 (row_ne' O_230.1 Br_230 (by decide)) HH_230 (Nat.le_refl _)
    have Bx_231 := Bx_230.far3' (p := w.heap.size) (a := .int .i64 W) (b := .int .i64 H) (c := .slice A1 xs.length c1) (by omega)
    have Br_231 := Br_230.put3' (.int .i64 W) (.int .i64 H) (.slice A1 xs.length c1)
    go_simp
    refine hK.out _ _ (by exact ⟨Bx_231.cell 0, Bx_231.cell 1, Bx_231.cell 2⟩) (fun hHeld => ?_)
    clear hK K
    (try simp only [Act.put, List.getElem_toArray, List.getElem_cons_zero, List.getElem_cons_succ, List.setIfInBounds_toArray, List.set_cons_zero, List.set_cons_succ])
    refine wpAnyH_take (i := 26) (v := ?_) rfl (by kernel_rfl) (by kernel_rfl) (by kernel_rfl) (fun _ _ _ h => h) (Or.inl ⟨by rfl, ?_⟩) (by assumption) ?_
    rotate_left
    · intro w hSw; (try dsimp only at hSw); go_simp; (try with_reducible rfl)
    (try simp only [Act.put, List.getElem_toArray, List.getElem_cons_zero, List.getElem_cons_succ, List.setIfInBounds_toArray, List.set_cons_zero, List.set_cons_succ])
    refine wpAnyH_take (i := 27) (v := ?_) rfl (by kernel_rfl) (by kernel_rfl) (by kernel_rfl) (fun _ _ _ h => h) (Or.inl ⟨by rfl, ?_⟩) (by assumption) ?_
    rotate_left
    · intro w hSw; (try dsimp only at hSw); go_simp; (try with_reducible rfl)
    (try simp only [Act.put, List.getElem_toArray, List.getElem_cons_zero, List.getElem_cons_succ, List.setIfInBounds_toArray, List.set_cons_zero, List.set_cons_succ])
    refine wpAnyH_take (i := 28) (v := ?_) rfl (by kernel_rfl) (by kernel_rfl) (by kernel_rfl) (fun _ _ _ h => h) (Or.inl ⟨by rfl, ?_⟩) (by assumption) ?_
    rotate_left
    · intro w hSw; (try dsimp only at hSw); go_simp; (try with_reducible rfl)
    (try simp only [Act.put, List.getElem_toArray, List.getElem_cons_zero, List.getElem_cons_succ, List.setIfInBounds_toArray, List.set_cons_zero, List.set_cons_succ])
    refine wpAnyH_take (i := 29) (v := ?_) rfl (by kernel_rfl) (by kernel_rfl) (by kernel_rfl) (fun _ _ _ h => h) (Or.inl ⟨by rfl, ?_⟩) (by assumption) ?_
    rotate_left
    · intro w hSw; (try dsimp only at hSw); go_simp; (try with_reducible rfl)
    (try simp only [Act.put, List.getElem_toArray, List.getElem_cons_zero, List.getElem_cons_succ, List.setIfInBounds_toArray, List.set_cons_zero, List.set_cons_succ])
    refine wpAnyH_done (by kernel_rfl) ?_ _
    refine NoPanic.normal ?_
    have g0 := Br_231.cell 0
    have g1 := Br_231.cell 1
    have g2 := Br_231.cell 2
    have F := F_231
    go_wp2
    exact bodyPost_ret (v := .tuple #[chartV W H (.slice A1 xs.length c1), .int .i64 row, .int .i64 col, .int .i64 (IntKind.i64.wrap (x226 + x227)), .int .i64 (IntKind.i64.wrap (x229 + x230))]) (by simp [results, Try.results5, go_sem, g0, g1, g2]) rfl ⟨W, H, A1, c1, xs, _, _, _, _, rfl, hsm, ⟨by omega, by omega⟩, ⟨by omega, by omega⟩, wrap_i64 _, wrap_i64 _, F.1, F.2⟩
  refine AllReadyH.cons rfl (fun K hK => ?_) AllReadyH.nil
  go_simp
  have hal232 := (Below.refl (wq216).heap.size (wq216)).alloc (Nat.le_refl _) (.cells #[.int .i64 1, .int .i64 1, .int .i64 1, .int .i64 2, .int .i64 0] 3)
  have C_232 := C_216.all hal232
  have Bx_232 := Bx_216.all hal232
  have Br_232 := Br_216.all hal232
  have O_232 := O_216.all hal232
  have HH_232 := HH_216.alloc HH_216.size (.cells #[.int .i64 1, .int .i64 1, .int .i64 1, .int .i64 2, .int .i64 0] 3)
  have Lit22_232 := Lit22_216.all hal232
  have Lit11_232 : Blk _ (wq216.heap.size) _ _ := Blk.new (wq216) #[.int .i64 1, .int .i64 1, .int .i64 1, .int .i64 2, .int .i64 0] 3
  obtain ⟨q232, hq232⟩ : ∃ q, wq216.heap.size = q := ⟨_, rfl⟩
  rw [hq232] at Lit11_232 ⊢
  obtain ⟨wq232, hw232⟩ : ∃ v, (wq216).alloc (.cells #[.int .i64 1, .int .i64 1, .int .i64 1, .int .i64 2, .int .i64 0] 3) = v := ⟨_, rfl⟩
  rw [hw232] at C_232 Bx_232 Br_232 O_232 HH_232 Lit22_232 Lit11_232 ⊢
  have hqp232 : q232 ≠ (w.heap.size + 1) := by have := C_216.lt; omega
  clear hal232 hw232 hq232
  refine hK.out _ _ (by exact ⟨Bx_232.cell 0, Bx_232.cell 1, Bx_232.cell 2⟩) (fun hHeld => ?_)
  clear hK K
  (try simp only [Act.put, List.getElem_toArray, List.getElem_cons_zero, List.getElem_cons_succ, List.setIfInBounds_toArray, List.set_cons_zero, List.set_cons_succ])
  clear hHeld
  refine wpAnyH_ready (rs := [8]) (by kernel_rfl) (by simp) ?_
  refine AllReadyH.cons rfl (fun K hK => ?_) AllReadyH.nil
  go_simp
  refine (l1Most_v 1 (H - row) M1 _ KM1.out).mono ?_
  rintro e wq233 ⟨rfl, rfl⟩
  refine hK.out _ _ (by exact ⟨Bx_232.cell 0, Bx_232.cell 1, Bx_232.cell 2⟩) (fun hHeld => ?_)
  clear hK K
  (try simp only [Act.put, List.getElem_toArray, List.getElem_cons_zero, List.getElem_cons_succ, List.setIfInBounds_toArray, List.set_cons_zero, List.set_cons_succ])
  clear hHeld
  refine wpAnyH_ready (rs := [9]) (by kernel_rfl) (by simp) ?_
  refine AllReadyH.cons rfl (fun K hK => ?_) AllReadyH.nil
  go_simp
  refine (pick_any (w.heap.size + 1) (((((0 + 1000) + 2) + 2) + 2) + 2) (M1) _ C_232 (by omega) (by omega) (by omega)).mono ?_
  rintro e wq234 ⟨x234, rfl, hx234, hc, hg⟩
  have C_234 := hc
  have Bx_234 := Bx_232.mark hg (fun z hz => by cases hz; omega)
  have Br_234 := Br_232.mark hg (fun z hz => by cases hz; omega)
  have O_234 := O_232.mark hg (fun z z' hz hz' => by cases hz; exact fun e => hne1 z' hz' e.symm)
  have HH_234 := HH_232.trans (grown_below (B := w.heap.size) hg (by omega) HH_232.size)
  have Lit22_234 := Lit22_232.mark hg (fun z hz => by cases hz; omega)
  have Lit11_234 := Lit11_232.mark hg (fun z hz => by cases hz; omega)
  clear hc hg
  refine hK.out _ _ (by exact ⟨Bx_234.cell 0, Bx_234.cell 1, Bx_234.cell 2⟩) (fun hHeld => ?_)
  clear hK K
  (try simp only [Act.put, List.getElem_toArray, List.getElem_cons_zero, List.getElem_cons_succ, List.setIfInBounds_toArray, List.set_cons_zero, List.set_cons_succ])
  clear hHeld
  refine wpAnyH_ready (rs := [12]) (by kernel_rfl) (by simp) ?_
  refine AllReadyH.cons rfl (fun K hK => ?_) AllReadyH.nil
  go_simp
  refine (among_any (w.heap.size + 1) ((((((0 + 1000) + 2) + 2) + 2) + 2) + 2) q232 0 5 5 _ [1, 1, 1, 2, 0] _ C_234 (by omega) (lit_rd2 (xs := [1, 1, 1, 2, 0]) Lit11_234 (I64.lit (by decide)) (by decide)) (by omega) (by omega) (by omega)).mono ?_
  rintro e wq235 ⟨x235, rfl, _, hc, hg⟩
  have C_235 := hc
  have Bx_235 := Bx_234.mark hg (fun z hz => by cases hz; omega)
  have Br_235 := Br_234.mark hg (fun z hz => by cases hz; omega)
  have O_235 := O_234.mark hg (fun z z' hz hz' => by cases hz; exact fun e => hne1 z' hz' e.symm)
  have HH_235 := HH_234.trans (grown_below (B := w.heap.size) hg (by omega) HH_234.size)
  have Lit22_235 := Lit22_234.mark hg (fun z hz => by cases hz; omega)
  have Lit11_235 := Lit11_234.mark hg (fun z hz => by cases hz; omega)
  clear hc hg
  refine hK.out _ _ (by exact ⟨Bx_235.cell 0, Bx_235.cell 1, Bx_235.cell 2⟩) (fun hHeld => ?_)
  clear hK K
  (try simp only [Act.put, List.getElem_toArray, List.getElem_cons_zero, List.getElem_cons_succ, List.setIfInBounds_toArray, List.set_cons_zero, List.set_cons_succ])
  refine wpAnyH_take (i := 13) (v := ?_) rfl (by kernel_rfl) (by kernel_rfl) (by kernel_rfl) (fun _ _ _ h => h) (Or.inl ⟨by rfl, ?_⟩) (by assumption) ?_
  rotate_left
  · intro w hSw; (try dsimp only at hSw); go_simp; (try with_reducible rfl)
  (try simp only [Act.put, List.getElem_toArray, List.getElem_cons_zero, List.getElem_cons_succ, List.setIfInBounds_toArray, List.set_cons_zero, List.set_cons_succ])
  clear hHeld
  refine wpAnyH_ready (rs := [19]) (by kernel_rfl) (by simp) ?_
  refine AllReadyH.cons rfl (fun K hK => ?_) AllReadyH.nil
  go_simp
  refine (l1Most_v 1 (W - col) M2 _ KM2.out).mono ?_
  rintro e wq236 ⟨rfl, rfl⟩
  refine hK.out _ _ (by exact ⟨Bx_235.cell 0, Bx_235.cell 1, Bx_235.cell 2⟩) (fun hHeld => ?_)
  clear hK K
  (try simp only [Act.put, List.getElem_toArray, List.getElem_cons_zero, List.getElem_cons_succ, List.setIfInBounds_toArray, List.set_cons_zero, List.set_cons_succ])
  clear hHeld
  refine wpAnyH_ready (rs := [20]) (by kernel_rfl) (by simp) ?_
  refine AllReadyH.cons rfl (fun K hK => ?_) AllReadyH.nil
  go_simp
  refine (pick_any (w.heap.size + 1) (((((((0 + 1000) + 2) + 2) + 2) + 2) + 2) + 2) (M2) _ C_235 (by omega) (by omega) (by omega)).mono ?_
  rintro e wq237 ⟨x237, rfl, hx237, hc, hg⟩
  have C_237 := hc
  have Bx_237 := Bx_235.mark hg (fun z hz => by cases hz; omega)
  have Br_237 := Br_235.mark hg (fun z hz => by cases hz; omega)
  have O_237 := O_235.mark hg (fun z z' hz hz' => by cases hz; exact fun e => hne1 z' hz' e.symm)
  have HH_237 := HH_235.trans (grown_below (B := w.heap.size) hg (by omega) HH_235.size)
  have Lit22_237 := Lit22_235.mark hg (fun z hz => by cases hz; omega)
  have Lit11_237 := Lit11_235.mark hg (fun z hz => by cases hz; omega)
  clear hc hg
  refine hK.out _ _ (by exact ⟨Bx_237.cell 0, Bx_237.cell 1, Bx_237.cell 2⟩) (fun hHeld => ?_)
  clear hK K
  (try simp only [Act.put, List.getElem_toArray, List.getElem_cons_zero, List.getElem_cons_succ, List.setIfInBounds_toArray, List.set_cons_zero, List.set_cons_succ])
  clear hHeld
  refine wpAnyH_ready (rs := [23]) (by kernel_rfl) (by simp) ?_
  refine AllReadyH.cons rfl (fun K hK => ?_) AllReadyH.nil
  go_simp
  refine (among_any (w.heap.size + 1) ((((((((0 + 1000) + 2) + 2) + 2) + 2) + 2) + 2) + 2) q216 0 5 5 _ [1, 1, 1, 2, 0] _ C_237 (by omega) (lit_rd2 (xs := [1, 1, 1, 2, 0]) Lit22_237 (I64.lit (by decide)) (by decide)) (by omega) (by omega) (by omega)).mono ?_
  rintro e wq238 ⟨x238, rfl, _, hc, hg⟩
  have C_238 := hc
  have Bx_238 := Bx_237.mark hg (fun z hz => by cases hz; omega)
  have Br_238 := Br_237.mark hg (fun z hz => by cases hz; omega)
  have O_238 := O_237.mark hg (fun z z' hz hz' => by cases hz; exact fun e => hne1 z' hz' e.symm)
  have HH_238 := HH_237.trans (grown_below (B := w.heap.size) hg (by omega) HH_237.size)
  have Lit22_238 := Lit22_237.mark hg (fun z hz => by cases hz; omega)
  have Lit11_238 := Lit11_237.mark hg (fun z hz => by cases hz; omega)
  clear hc hg
  refine hK.out _ _ (by exact ⟨Bx_238.cell 0, Bx_238.cell 1, Bx_238.cell 2⟩) (fun hHeld => ?_)
  clear hK K
  (try simp only [Act.put, List.getElem_toArray, List.getElem_cons_zero, List.getElem_cons_succ, List.setIfInBounds_toArray, List.set_cons_zero, List.set_cons_succ])
  refine wpAnyH_take (i := 24) (v := ?_) rfl (by kernel_rfl) (by kernel_rfl) (by kernel_rfl) (fun _ _ _ h => h) (Or.inl ⟨by rfl, ?_⟩) (by assumption) ?_
  rotate_left
  · intro w hSw; (try dsimp only at hSw); go_simp; (try with_reducible rfl)
  (try simp only [Act.put, List.getElem_toArray, List.getElem_cons_zero, List.getElem_cons_succ, List.setIfInBounds_toArray, List.set_cons_zero, List.set_cons_succ])
  clear hHeld
  refine wpAnyH_ready (rs := [25]) (by kernel_rfl) (by simp) ?_
  refine AllReadyH.cons rfl (fun K hK => ?_) AllReadyH.nil
  have g0_239 := Br_238.cell 0
  have g1_239 := Br_238.cell 1
  have g2_239 := Br_238.cell 2
  have z0_239 := Br_238.frozen 0
  have z1_239 := Br_238.frozen 1
  have z2_239 := Br_238.frozen 2
  have F_239 := fin3 (p := w.heap.size) (a := .int .i64 W) (b := .int .i64 H) (c := .slice A1 xs.length c1) O_238 (row_ne' O_238.1 Br_238 (by decide)) HH_238 (Nat.le_refl _)
  have Bx_239 := Bx_238.far3' (p := w.heap.size) (a := .int .i64 W) (b := .int .i64 H) (c := .slice A1 xs.length c1) (by omega)
  have Br_239 := Br_238.put3' (.int .i64 W) (.int .i64 H) (.slice A1 xs.length c1)
  go_simp
  refine hK.out _ _ (by exact ⟨Bx_239.cell 0, Bx_239.cell 1, Bx_239.cell 2⟩) (fun hHeld => ?_)
  clear hK K
  (try simp only [Act.put, List.getElem_toArray, List.getElem_cons_zero, List.getElem_cons_succ, List.setIfInBounds_toArray, List.set_cons_zero, List.set_cons_succ])
  refine wpAnyH_take (i := 26) (v := ?_) rfl (by kernel_rfl) (by kernel_rfl) (by kernel_rfl) (fun _ _ _ h => h) (Or.inl ⟨by rfl, ?_⟩) (by assumption) ?_
  rotate_left
  · intro w hSw; (try dsimp only at hSw); go_simp; (try with_reducible rfl)
  (try simp only [Act.put, List.getElem_toArray, List.getElem_cons_zero, List.getElem_cons_succ, List.setIfInBounds_toArray, List.set_cons_zero, List.set_cons_succ])
  refine wpAnyH_take (i := 27) (v := ?_) rfl (by kernel_rfl) (by kernel_rfl) (by kernel_rfl) (fun _ _ _ h => h) (Or.inl ⟨by rfl, ?_⟩) (by assumption) ?_
  rotate_left
  · intro w hSw; (try dsimp only at hSw); go_simp; (try with_reducible rfl)
  (try simp only [Act.put, List.getElem_toArray, List.getElem_cons_zero, List.getElem_cons_succ, List.setIfInBounds_toArray, List.set_cons_zero, List.set_cons_succ])
  refine wpAnyH_take (i := 28) (v := ?_) rfl (by kernel_rfl) (by kernel_rfl) (by kernel_rfl) (fun _ _ _ h => h) (Or.inl ⟨by rfl, ?_⟩) (by assumption) ?_
  rotate_left
  · intro w hSw; (try dsimp only at hSw); go_simp; (try with_reducible rfl)
  (try simp only [Act.put, List.getElem_toArray, List.getElem_cons_zero, List.getElem_cons_succ, List.setIfInBounds_toArray, List.set_cons_zero, List.set_cons_succ])
  refine wpAnyH_take (i := 29) (v := ?_) rfl (by kernel_rfl) (by kernel_rfl) (by kernel_rfl) (fun _ _ _ h => h) (Or.inl ⟨by rfl, ?_⟩) (by assumption) ?_
  rotate_left
  · intro w hSw; (try dsimp only at hSw); go_simp; (try with_reducible rfl)
  (try simp only [Act.put, List.getElem_toArray, List.getElem_cons_zero, List.getElem_cons_succ, List.setIfInBounds_toArray, List.set_cons_zero, List.set_cons_succ])
  refine wpAnyH_done (by kernel_rfl) ?_ _
  refine NoPanic.normal ?_
  have g0 := Br_239.cell 0
  have g1 := Br_239.cell 1
  have g2 := Br_239.cell 2
  have F := F_239
  go_wp2
  exact bodyPost_ret (v := .tuple #[chartV W H (.slice A1 xs.length c1), .int .i64 row, .int .i64 col, .int .i64 (IntKind.i64.wrap (x234 + x235)), .int .i64 (IntKind.i64.wrap (x237 + x238))]) (by simp [results, Try.results5, go_sem, g0, g1, g2]) rfl ⟨W, H, A1, c1, xs, _, _, _, _, rfl, hsm, ⟨by omega, by omega⟩, ⟨by omega, by omega⟩, wrap_i64 _, wrap_i64 _, F.1, F.2⟩
end Go.Proofs.Ytbhdgpkfighjfaa
