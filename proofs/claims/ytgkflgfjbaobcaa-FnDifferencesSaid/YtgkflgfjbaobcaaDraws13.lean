/- The draws of chapter 13: a shift, two charts with and without a shift. Condition: a code of at most 65536 bytes. -/
import Derived.Test.YtgkflgfjbaobcaaPhotoD
namespace Go.Proofs.Ytgkflgfjbaobcaa
open Go.RowKit
set_option maxRecDepth 100000

/-- A draw of two charts. -/
def GaveCharts (w : World) (e : Ending) (w' : World) : Prop := ∃ (W H : Int) (A : Option Addr) (c : Nat) (xs : List Int) (W' H' : Int) (A' : Option Addr) (c' : Nat) (ys : List Int), e = .returned (.tuple #[chartV W H (.slice A xs.length c), chartV W' H' (.slice A' ys.length c')]) ∧ Small W H xs ∧ Small W' H' ys ∧ Own w' w.heap.size (.slice A xs.length c) xs ∧ Own w' w.heap.size (.slice A' ys.length c') ys ∧ Below w.heap.size w w'
/-- A draw of two charts and a shift. -/
def GaveShift (w : World) (e : Ending) (w' : World) : Prop := ∃ (W H : Int) (A : Option Addr) (c : Nat) (xs : List Int) (W' H' : Int) (A' : Option Addr) (c' : Nat) (ys : List Int) (d a : Int), e = .returned (.tuple #[chartV W H (.slice A xs.length c), chartV W' H' (.slice A' ys.length c'), .int .i64 d, .int .i64 a]) ∧ Small W H xs ∧ Small W' H' ys ∧ (-3 ≤ d ∧ d ≤ 3) ∧ (-3 ≤ a ∧ a ≤ 3) ∧ Own w' w.heap.size (.slice A xs.length c) xs ∧ Own w' w.heap.size (.slice A' ys.length c') ys ∧ Below w.heap.size w w'
set_option maxRecDepth 100000 in
set_option maxHeartbeats 400000 in
theorem shift_any (p k : Nat) (w : World) (h : Cur w p k) (hk : k + 2 ≤ 4294967296) : Calls Try.prog 19 #[.pointer (some ⟨p, 0, none⟩)] w (Drew w p (k + 2) fun y => -3 ≤ y ∧ y ≤ 3) := by
  have hpw := h.lt
  have hr := lit_rd w [0, 0, 0, 1, -1, 2, -2, 3, -3] (by intro x hx; simp at hx; unfold I64; omega) (by decide)
  have hc := h.all ((Below.refl _ _).alloc (Nat.le_refl _) (.cells ([0, 0, 0, 1, -1, 2, -2, 3, -3].map (Value.int .i64)).toArray 3))
  go_enter Try.func19, Try.ntmps19
  go_wp2_with fail
  refine (among_any p k w.heap.size 0 9 9 _ [0, 0, 0, 1, -1, 2, -2, 3, -3] _ hc hk hr (by omega) (by omega) (by omega)).mono ?_
  rintro e w1 ⟨y, rfl, hy, hc2, hg⟩
  clear h hr hc
  go_wp2
  go_ret
  refine ⟨y, rfl, ?_, hc2, grown_trans (World.grownBy_alloc _ _ _) hg⟩
  simp at hy
  omega
set_option maxRecDepth 100000 in
set_option maxHeartbeats 4000000 in
theorem drawDifferencesAt_any (A : Option Addr) (n c B : Nat) (w : World) (h : RdB w B A n c) (hB : B ≤ w.heap.size) (hn : n ≤ 65536) : Calls Try.prog 5 #[.slice A n c] w (GaveShift w) := by
  have hb0 := ((Below.refl w.heap.size w).alloc (Nat.le_refl _) (.cells #[.int .i64 0, .int .i64 0, .slice none 0 0] 26)).alloc (by simp) (.cells #[.int .i64 0, .int .i64 0, .slice none 0 0] 26)
  have r0 := ((Blk.new w #[.int .i64 0, .int .i64 0, .slice none 0 0] 26).alloc (.cells #[.int .i64 0, .int .i64 0, .slice none 0 0] 26)).alloc (.cells #[.slice A n c, .int .i64 0, .int .u64 0] 45)
  have s0 := ((Blk.new (w.alloc (.cells #[.int .i64 0, .int .i64 0, .slice none 0 0] 26)) #[.int .i64 0, .int .i64 0, .slice none 0 0] 26).alloc (.cells #[.slice A n c, .int .i64 0, .int .u64 0] 45)).at_ (q := w.heap.size + 1) (by simp)
  have hc0 : Cur (((w.alloc (.cells #[.int .i64 0, .int .i64 0, .slice none 0 0] 26)).alloc (.cells #[.int .i64 0, .int .i64 0, .slice none 0 0] 26)).alloc (.cells #[.slice A n c, .int .i64 0, .int .u64 0] 45)) (w.heap.size + 2) 0 := by
    have := cur_new ((h.alloc hB (.cells #[.int .i64 0, .int .i64 0, .slice none 0 0] 26)).alloc (by simp; omega) (.cells #[.int .i64 0, .int .i64 0, .slice none 0 0] 26)) (by simp; omega) hn
    simpa using this
  have hb1 := hb0.alloc (by simp; omega) (.cells #[.slice A n c, .int .i64 0, .int .u64 0] 45)
  clear h hb0
  go_enter Try.func5, Try.ntmps5
  go_wp2_with fail
  refine (photo_any (w.heap.size + 2) 0 _ hc0 (by omega)).mono ?_
  rintro e w1 ⟨W, H, A1, c1, xs, W2, H2, A2, c2, ys, rfl, hsm, hsm2, own, own2, hc1, hg1⟩
  have r1 := r0.mark hg1 (fun z hz => by cases hz; omega)
  have s1 := s0.mark hg1 (fun z hz => by cases hz; omega)
  have HB1 := hb1.trans (grown_below (B := w.heap.size) hg1 (by omega) (by simp; omega))
  have hno : ∀ (v : Value) (zs : List Int), Own w1 ((((w.alloc (.cells #[.int .i64 0, .int .i64 0, .slice none 0 0] 26)).alloc (.cells #[.int .i64 0, .int .i64 0, .slice none 0 0] 26)).alloc (.cells #[.slice A n c, .int .i64 0, .int .u64 0] 45)).heap.size) v zs → ∀ z, v.ownBlock = some z → z ≠ w.heap.size + 2 := fun v zs ho z hz => by have := (ho.bd z hz).1; simp at this; omega
  have hne1 := hno _ _ own
  have hne2 := hno _ _ own2
  replace own := own.mono (show w.heap.size ≤ _ by simp; omega)
  replace own2 := own2.mono (show w.heap.size ≤ _ by simp; omega)
  clear hc0 hg1 r0 s0 hb1 hno
  have hz := s1.lt
  have hzc := hc1.lt
  have hal := (Below.refl w1.heap.size w1).alloc (Nat.le_refl _) (.cells #[.int .i64 W, .int .i64 H, .slice A1 xs.length c1] 26)
  have hal2 := hal.alloc hal.size (.cells #[.int .i64 W2, .int .i64 H2, .slice A2 ys.length c2] 26)
  have r3 := r1.all hal2
  have s3 := s1.all hal2
  have c3 := hc1.all hal2
  have own3 := own.all hal2
  have own4 := own2.all hal2
  have HB3 := HB1.trans (hal2.mono HB1.size)
  have x3 := (Blk.new w1 #[.int .i64 W, .int .i64 H, .slice A1 xs.length c1] 26).alloc (.cells #[.int .i64 W2, .int .i64 H2, .slice A2 ys.length c2] 26)
  have y3 := (Blk.new (w1.alloc (.cells #[.int .i64 W, .int .i64 H, .slice A1 xs.length c1] 26)) #[.int .i64 W2, .int .i64 H2, .slice A2 ys.length c2] 26).at_ (q := w1.heap.size + 1) (by simp)
  clear hal hal2 r1 s1 own own2 HB1 hc1
  go_upto_region 3 with fail
  obtain ⟨w3, hw3⟩ : ∃ v, (w1.alloc (.cells #[.int .i64 W, .int .i64 H, .slice A1 xs.length c1] 26)).alloc (.cells #[.int .i64 W2, .int .i64 H2, .slice A2 ys.length c2] 26) = v := ⟨_, rfl⟩
  rw [hw3] at r3 s3 c3 own3 own4 HB3 x3 y3 ⊢
  clear hw3
  have ex0 := x3.cell 0
  have ex1 := x3.cell 1
  have ex2 := x3.cell 2
  have ey0 := y3.cell 0
  have ey1 := y3.cell 1
  have ey2 := y3.cell 2
  have hs2 : w.heap.size + 2 < w1.heap.size := by omega
  obtain ⟨Q, hQ⟩ : ∃ q, w1.heap.size = q := ⟨_, rfl⟩
  rw [hQ] at x3 y3 hs2 hz hzc ex0 ex1 ex2 ey0 ey1 ey2 ⊢
  clear hQ
  (try go_wp2)
  refine wp_region_noPanic ?_
  refine wp_region_held_drew (S := (fun w' => w'.cell? ⟨Q, 0, none⟩ = some (.int .i64 W) ∧ w'.cell? ⟨Q, 1, none⟩ = some (.int .i64 H) ∧ w'.cell? ⟨Q, 2, none⟩ = some (.slice A1 xs.length c1) ∧ w'.cell? ⟨Q + 1, 0, none⟩ = some (.int .i64 W2) ∧ w'.cell? ⟨Q + 1, 1, none⟩ = some (.int .i64 H2) ∧ w'.cell? ⟨Q + 1, 2, none⟩ = some (.slice A2 ys.length c2))) (by kernel_rfl) (by go_keep) (fun hHeld => ?_)
  have c3z := cur_drew c3
  have x3z : Blk w3.drew _ _ _ := x3.all (low_drewN w3 1)
  have y3z : Blk w3.drew _ _ _ := y3.all (low_drewN w3 1)
  have r3z : Blk w3.drew _ _ _ := r3.all (low_drewN w3 1)
  have s3z : Blk w3.drew _ _ _ := s3.all (low_drewN w3 1)
  have own3z : Own w3.drew _ _ _ := own3.all (low_drewN w3 1)
  have own4z : Own w3.drew _ _ _ := own4.all (low_drewN w3 1)
  have HB3z := belowD HB3
  obtain ⟨wdP, hwd⟩ : ∃ v, w3.drew = v := ⟨_, rfl⟩
  rw [hwd] at hHeld c3z x3z y3z r3z s3z own3z own4z HB3z ⊢
  clear hwd
  refine wpAnyH_take (i := 0) (v := ?_) rfl (by kernel_rfl) (by kernel_rfl) (by kernel_rfl) (fun _ _ _ h => h) (Or.inl ⟨by rfl, ?_⟩) (by assumption) ?_
  rotate_left
  · intro w hSw; (try dsimp only at hSw); go_simp; (try with_reducible rfl)
  (try simp only [Act.put, List.getElem_toArray, List.getElem_cons_zero, List.setIfInBounds_toArray, List.set_cons_zero, List.set_cons_succ])
  refine wpAnyH_take (i := 1) (v := ?_) rfl (by kernel_rfl) (by kernel_rfl) (by kernel_rfl) (fun _ _ _ h => h) (Or.inl ⟨by rfl, ?_⟩) (by assumption) ?_
  rotate_left
  · intro w hSw; (try dsimp only at hSw); go_simp; (try with_reducible rfl)
  (try simp only [Act.put, List.getElem_toArray, List.getElem_cons_zero, List.getElem_cons_succ, List.setIfInBounds_toArray, List.set_cons_zero, List.set_cons_succ])
  refine wpAnyH_take (i := 2) (v := ?_) rfl (by kernel_rfl) (by kernel_rfl) (by kernel_rfl) (fun _ _ _ h => h) (Or.inl ⟨by rfl, ?_⟩) (by assumption) ?_
  rotate_left
  · intro w hSw; (try dsimp only at hSw); go_simp; (try with_reducible rfl)
  (try simp only [Act.put, List.getElem_toArray, List.getElem_cons_zero, List.getElem_cons_succ, List.setIfInBounds_toArray, List.set_cons_zero, List.set_cons_succ])
  refine wpAnyH_take (i := 4) (v := ?_) rfl (by kernel_rfl) (by kernel_rfl) (by kernel_rfl) (fun _ _ _ h => h) (Or.inl ⟨by rfl, ?_⟩) (by assumption) ?_
  rotate_left
  · intro w hSw; (try dsimp only at hSw); go_simp; (try with_reducible rfl)
  (try simp only [Act.put, List.getElem_toArray, List.getElem_cons_zero, List.getElem_cons_succ, List.setIfInBounds_toArray, List.set_cons_zero, List.set_cons_succ])
  clear hHeld
  refine wpAnyH_ready (rs := [3]) (by kernel_rfl) (by simp) ?_
  refine AllReadyH.cons rfl (fun K hK => ?_) AllReadyH.nil
  go_simp
  refine (shift_any (w.heap.size + 2) (0 + 4000) _ c3z (by omega)).mono ?_
  rintro e wq1001 ⟨x3, rfl, hx3, hc, hg⟩
  clear c3z
  have c3z := hc
  replace x3z := x3z.mark hg (fun z hz => by cases hz; omega)
  replace y3z := y3z.mark hg (fun z hz => by cases hz; omega)
  replace r3z := r3z.mark hg (fun z hz => by cases hz; omega)
  replace s3z := s3z.mark hg (fun z hz => by cases hz; omega)
  replace own3z := own3z.mark hg (fun z z' hz hz' => by cases hz; exact fun e => hne1 z' hz' e.symm)
  replace own4z := own4z.mark hg (fun z z' hz hz' => by cases hz; exact fun e => hne2 z' hz' e.symm)
  replace HB3z := HB3z.trans (grown_below (B := w.heap.size) hg (by omega) HB3z.size)
  clear hc hg
  refine hK.out _ _ (by exact ⟨x3z.cell 0, x3z.cell 1, x3z.cell 2, y3z.cell 0, y3z.cell 1, y3z.cell 2⟩) (fun hHeld => ?_)
  clear hK K
  (try simp only [Act.put, List.getElem_toArray, List.getElem_cons_zero, List.getElem_cons_succ, List.setIfInBounds_toArray, List.set_cons_zero, List.set_cons_succ])
  clear hHeld
  refine wpAnyH_ready (rs := [5]) (by kernel_rfl) (by simp) ?_
  refine AllReadyH.cons rfl (fun K hK => ?_) AllReadyH.nil
  go_simp
  refine (shift_any (w.heap.size + 2) ((0 + 4000) + 2) _ c3z (by omega)).mono ?_
  rintro e wq1002 ⟨x5, rfl, hx5, hc, hg⟩
  clear c3z
  have c3z := hc
  replace x3z := x3z.mark hg (fun z hz => by cases hz; omega)
  replace y3z := y3z.mark hg (fun z hz => by cases hz; omega)
  replace r3z := r3z.mark hg (fun z hz => by cases hz; omega)
  replace s3z := s3z.mark hg (fun z hz => by cases hz; omega)
  replace own3z := own3z.mark hg (fun z z' hz hz' => by cases hz; exact fun e => hne1 z' hz' e.symm)
  replace own4z := own4z.mark hg (fun z z' hz hz' => by cases hz; exact fun e => hne2 z' hz' e.symm)
  replace HB3z := HB3z.trans (grown_below (B := w.heap.size) hg (by omega) HB3z.size)
  clear hc hg
  refine hK.out _ _ (by exact ⟨x3z.cell 0, x3z.cell 1, x3z.cell 2, y3z.cell 0, y3z.cell 1, y3z.cell 2⟩) (fun hHeld => ?_)
  clear hK K
  (try simp only [Act.put, List.getElem_toArray, List.getElem_cons_zero, List.getElem_cons_succ, List.setIfInBounds_toArray, List.set_cons_zero, List.set_cons_succ])
  clear hHeld
  refine wpAnyH_ready (rs := [6]) (by kernel_rfl) (by simp) ?_
  refine AllReadyH.cons rfl (fun K hK => ?_) AllReadyH.nil
  have g0 := r3z.cell 0
  have g1 := r3z.cell 1
  have g2 := r3z.cell 2
  have z0 := r3z.frozen 0
  have z1 := r3z.frozen 1
  have z2 := r3z.frozen 2
  have F_own3 := fin3 (p := w.heap.size) (a := .int .i64 W) (b := .int .i64 H) (c := .slice A1 xs.length c1) own3z (row_ne' own3z.1 r3z (by decide)) HB3z (by omega)
  have F_own4 := fin3 (p := w.heap.size) (a := .int .i64 W) (b := .int .i64 H) (c := .slice A1 xs.length c1) own4z (row_ne' own4z.1 r3z (by decide)) HB3z (by omega)
  have x3zs := x3z.far3q (p := w.heap.size) (a := .int .i64 W) (b := .int .i64 H) (c := .slice A1 xs.length c1) (by omega)
  have y3zs := y3z.far3q (p := w.heap.size) (a := .int .i64 W) (b := .int .i64 H) (c := .slice A1 xs.length c1) (by omega)
  have r3zs := r3z.put3q (.int .i64 W) (.int .i64 H) (.slice A1 xs.length c1)
  have s3zs := s3z.far3q (p := w.heap.size) (a := .int .i64 W) (b := .int .i64 H) (c := .slice A1 xs.length c1) (by omega)
  go_simp
  obtain ⟨ws1003, hws⟩ : ∃ v, ((wq1002.setCell ⟨w.heap.size, 0, none⟩ (.int .i64 W)).setCell ⟨w.heap.size, 1, none⟩ (.int .i64 H)).setCell ⟨w.heap.size, 2, none⟩ (.slice A1 xs.length c1) = v := ⟨_, rfl⟩
  rw [hws] at x3zs y3zs r3zs s3zs F_own3 F_own4 ⊢
  clear hws g0 g1 g2 z0 z1 z2
  have own3zs := F_own3.1
  have own4zs := F_own4.1
  have HB3zs := F_own3.2
  clear F_own3 F_own4
  refine hK.out _ _ (by exact ⟨x3zs.cell 0, x3zs.cell 1, x3zs.cell 2, y3zs.cell 0, y3zs.cell 1, y3zs.cell 2⟩) (fun hHeld => ?_)
  clear hK K
  (try simp only [Act.put, List.getElem_toArray, List.getElem_cons_zero, List.getElem_cons_succ, List.setIfInBounds_toArray, List.set_cons_zero, List.set_cons_succ])
  clear hHeld
  refine wpAnyH_ready (rs := [7]) (by kernel_rfl) (by simp) ?_
  refine AllReadyH.cons rfl (fun K hK => ?_) AllReadyH.nil
  have g0 := s3zs.cell 0
  have g1 := s3zs.cell 1
  have g2 := s3zs.cell 2
  have z0 := s3zs.frozen 0
  have z1 := s3zs.frozen 1
  have z2 := s3zs.frozen 2
  have F_own3 := fin3 (p := (w.heap.size + 1)) (a := .int .i64 W2) (b := .int .i64 H2) (c := .slice A2 ys.length c2) own3zs (row_ne' own3zs.1 s3zs (by decide)) HB3zs (by omega)
  have F_own4 := fin3 (p := (w.heap.size + 1)) (a := .int .i64 W2) (b := .int .i64 H2) (c := .slice A2 ys.length c2) own4zs (row_ne' own4zs.1 s3zs (by decide)) HB3zs (by omega)
  have x3zss := x3zs.far3q (p := (w.heap.size + 1)) (a := .int .i64 W2) (b := .int .i64 H2) (c := .slice A2 ys.length c2) (by omega)
  have y3zss := y3zs.far3q (p := (w.heap.size + 1)) (a := .int .i64 W2) (b := .int .i64 H2) (c := .slice A2 ys.length c2) (by omega)
  have r3zss := r3zs.far3q (p := (w.heap.size + 1)) (a := .int .i64 W2) (b := .int .i64 H2) (c := .slice A2 ys.length c2) (by omega)
  have s3zss := s3zs.put3q (.int .i64 W2) (.int .i64 H2) (.slice A2 ys.length c2)
  go_simp
  obtain ⟨ws1004, hws⟩ : ∃ v, ((ws1003.setCell ⟨(w.heap.size + 1), 0, none⟩ (.int .i64 W2)).setCell ⟨(w.heap.size + 1), 1, none⟩ (.int .i64 H2)).setCell ⟨(w.heap.size + 1), 2, none⟩ (.slice A2 ys.length c2) = v := ⟨_, rfl⟩
  rw [hws] at x3zss y3zss r3zss s3zss F_own3 F_own4 ⊢
  clear hws g0 g1 g2 z0 z1 z2
  have own3zss := F_own3.1
  have own4zss := F_own4.1
  have HB3zss := F_own3.2
  clear F_own3 F_own4
  refine hK.out _ _ (by exact ⟨x3zss.cell 0, x3zss.cell 1, x3zss.cell 2, y3zss.cell 0, y3zss.cell 1, y3zss.cell 2⟩) (fun hHeld => ?_)
  clear hK K
  (try simp only [Act.put, List.getElem_toArray, List.getElem_cons_zero, List.getElem_cons_succ, List.setIfInBounds_toArray, List.set_cons_zero, List.set_cons_succ])
  refine wpAnyH_take (i := 8) (v := ?_) rfl (by kernel_rfl) (by kernel_rfl) (by kernel_rfl) (fun _ _ _ h => h) (Or.inl ⟨by rfl, ?_⟩) (by assumption) ?_
  rotate_left
  · intro w hSw; (try dsimp only at hSw); go_simp; (try with_reducible rfl)
  (try simp only [Act.put, List.getElem_toArray, List.getElem_cons_zero, List.getElem_cons_succ, List.setIfInBounds_toArray, List.set_cons_zero, List.set_cons_succ])
  refine wpAnyH_take (i := 9) (v := ?_) rfl (by kernel_rfl) (by kernel_rfl) (by kernel_rfl) (fun _ _ _ h => h) (Or.inl ⟨by rfl, ?_⟩) (by assumption) ?_
  rotate_left
  · intro w hSw; (try dsimp only at hSw); go_simp; (try with_reducible rfl)
  (try simp only [Act.put, List.getElem_toArray, List.getElem_cons_zero, List.getElem_cons_succ, List.setIfInBounds_toArray, List.set_cons_zero, List.set_cons_succ])
  refine wpAnyH_done (by kernel_rfl) ?_ _
  refine NoPanic.normal ?_
  have g0 := r3zss.cell 0
  have g1 := r3zss.cell 1
  have g2 := r3zss.cell 2
  have k0 := s3zss.cell 0
  have k1 := s3zss.cell 1
  have k2 := s3zss.cell 2
  go_wp2
  exact bodyPost_ret (v := .tuple #[chartV W H (.slice A1 xs.length c1), chartV W2 H2 (.slice A2 ys.length c2), .int .i64 x3, .int .i64 x5]) (by simp [results, Try.results5, go_sem, g0, g1, g2, k0, k1, k2]) rfl ⟨W, H, A1, c1, xs, W2, H2, A2, c2, ys, x3, x5, rfl, hsm, hsm2, hx3, hx5, own3zss, own4zss, HB3zss⟩
set_option maxRecDepth 100000 in
set_option maxHeartbeats 4000000 in
theorem drawBestShift_any (A : Option Addr) (n c B : Nat) (w : World) (h : RdB w B A n c) (hB : B ≤ w.heap.size) (hn : n ≤ 65536) : Calls Try.prog 23 #[.slice A n c] w (GaveCharts w) := by
  have hb0 := ((Below.refl w.heap.size w).alloc (Nat.le_refl _) (.cells #[.int .i64 0, .int .i64 0, .slice none 0 0] 26)).alloc (by simp) (.cells #[.int .i64 0, .int .i64 0, .slice none 0 0] 26)
  have r0 := ((Blk.new w #[.int .i64 0, .int .i64 0, .slice none 0 0] 26).alloc (.cells #[.int .i64 0, .int .i64 0, .slice none 0 0] 26)).alloc (.cells #[.slice A n c, .int .i64 0, .int .u64 0] 45)
  have s0 := ((Blk.new (w.alloc (.cells #[.int .i64 0, .int .i64 0, .slice none 0 0] 26)) #[.int .i64 0, .int .i64 0, .slice none 0 0] 26).alloc (.cells #[.slice A n c, .int .i64 0, .int .u64 0] 45)).at_ (q := w.heap.size + 1) (by simp)
  have hc0 : Cur (((w.alloc (.cells #[.int .i64 0, .int .i64 0, .slice none 0 0] 26)).alloc (.cells #[.int .i64 0, .int .i64 0, .slice none 0 0] 26)).alloc (.cells #[.slice A n c, .int .i64 0, .int .u64 0] 45)) (w.heap.size + 2) 0 := by
    have := cur_new ((h.alloc hB (.cells #[.int .i64 0, .int .i64 0, .slice none 0 0] 26)).alloc (by simp; omega) (.cells #[.int .i64 0, .int .i64 0, .slice none 0 0] 26)) (by simp; omega) hn
    simpa using this
  have hb1 := hb0.alloc (by simp; omega) (.cells #[.slice A n c, .int .i64 0, .int .u64 0] 45)
  clear h hb0
  go_enter Try.func23, Try.ntmps23
  go_wp2_with fail
  refine (photo_any (w.heap.size + 2) 0 _ hc0 (by omega)).mono ?_
  rintro e w1 ⟨W, H, A1, c1, xs, W2, H2, A2, c2, ys, rfl, hsm, hsm2, own, own2, hc1, hg1⟩
  have r1 := r0.mark hg1 (fun z hz => by cases hz; omega)
  have s1 := s0.mark hg1 (fun z hz => by cases hz; omega)
  have HB1 := hb1.trans (grown_below (B := w.heap.size) hg1 (by omega) (by simp; omega))
  have hno : ∀ (v : Value) (zs : List Int), Own w1 ((((w.alloc (.cells #[.int .i64 0, .int .i64 0, .slice none 0 0] 26)).alloc (.cells #[.int .i64 0, .int .i64 0, .slice none 0 0] 26)).alloc (.cells #[.slice A n c, .int .i64 0, .int .u64 0] 45)).heap.size) v zs → ∀ z, v.ownBlock = some z → z ≠ w.heap.size + 2 := fun v zs ho z hz => by have := (ho.bd z hz).1; simp at this; omega
  have hne1 := hno _ _ own
  have hne2 := hno _ _ own2
  replace own := own.mono (show w.heap.size ≤ _ by simp; omega)
  replace own2 := own2.mono (show w.heap.size ≤ _ by simp; omega)
  clear hc0 hg1 r0 s0 hb1 hno
  have hz := s1.lt
  have hzc := hc1.lt
  have hal := (Below.refl w1.heap.size w1).alloc (Nat.le_refl _) (.cells #[.int .i64 W, .int .i64 H, .slice A1 xs.length c1] 26)
  have hal2 := hal.alloc hal.size (.cells #[.int .i64 W2, .int .i64 H2, .slice A2 ys.length c2] 26)
  have r3 := r1.all hal2
  have s3 := s1.all hal2
  have c3 := hc1.all hal2
  have own3 := own.all hal2
  have own4 := own2.all hal2
  have HB3 := HB1.trans (hal2.mono HB1.size)
  have x3 := (Blk.new w1 #[.int .i64 W, .int .i64 H, .slice A1 xs.length c1] 26).alloc (.cells #[.int .i64 W2, .int .i64 H2, .slice A2 ys.length c2] 26)
  have y3 := (Blk.new (w1.alloc (.cells #[.int .i64 W, .int .i64 H, .slice A1 xs.length c1] 26)) #[.int .i64 W2, .int .i64 H2, .slice A2 ys.length c2] 26).at_ (q := w1.heap.size + 1) (by simp)
  clear hal hal2 r1 s1 own own2 HB1 hc1
  go_upto_region 3 with fail
  obtain ⟨w3, hw3⟩ : ∃ v, (w1.alloc (.cells #[.int .i64 W, .int .i64 H, .slice A1 xs.length c1] 26)).alloc (.cells #[.int .i64 W2, .int .i64 H2, .slice A2 ys.length c2] 26) = v := ⟨_, rfl⟩
  rw [hw3] at r3 s3 c3 own3 own4 HB3 x3 y3 ⊢
  clear hw3
  have ex0 := x3.cell 0
  have ex1 := x3.cell 1
  have ex2 := x3.cell 2
  have ey0 := y3.cell 0
  have ey1 := y3.cell 1
  have ey2 := y3.cell 2
  have hs2 : w.heap.size + 2 < w1.heap.size := by omega
  obtain ⟨Q, hQ⟩ : ∃ q, w1.heap.size = q := ⟨_, rfl⟩
  rw [hQ] at x3 y3 hs2 hz hzc ex0 ex1 ex2 ey0 ey1 ey2 ⊢
  clear hQ
  (try go_wp2)
  refine wp_region_noPanic ?_
  refine wp_region_held_drew (S := (fun w' => w'.cell? ⟨Q, 0, none⟩ = some (.int .i64 W) ∧ w'.cell? ⟨Q, 1, none⟩ = some (.int .i64 H) ∧ w'.cell? ⟨Q, 2, none⟩ = some (.slice A1 xs.length c1) ∧ w'.cell? ⟨Q + 1, 0, none⟩ = some (.int .i64 W2) ∧ w'.cell? ⟨Q + 1, 1, none⟩ = some (.int .i64 H2) ∧ w'.cell? ⟨Q + 1, 2, none⟩ = some (.slice A2 ys.length c2))) (by kernel_rfl) (by go_keep) (fun hHeld => ?_)
  have x3z : Blk w3.drew _ _ _ := x3.all (low_drewN w3 1)
  have y3z : Blk w3.drew _ _ _ := y3.all (low_drewN w3 1)
  have r3z : Blk w3.drew _ _ _ := r3.all (low_drewN w3 1)
  have s3z : Blk w3.drew _ _ _ := s3.all (low_drewN w3 1)
  have own3z : Own w3.drew _ _ _ := own3.all (low_drewN w3 1)
  have own4z : Own w3.drew _ _ _ := own4.all (low_drewN w3 1)
  have HB3z := belowD HB3
  obtain ⟨wdQ, hwd⟩ : ∃ v, w3.drew = v := ⟨_, rfl⟩
  rw [hwd] at hHeld x3z y3z r3z s3z own3z own4z HB3z ⊢
  clear hwd
  refine wpAnyH_take (i := 0) (v := ?_) rfl (by kernel_rfl) (by kernel_rfl) (by kernel_rfl) (fun _ _ _ h => h) (Or.inl ⟨by rfl, ?_⟩) (by assumption) ?_
  rotate_left
  · intro w hSw; (try dsimp only at hSw); go_simp; (try with_reducible rfl)
  (try simp only [Act.put, List.getElem_toArray, List.getElem_cons_zero, List.setIfInBounds_toArray, List.set_cons_zero, List.set_cons_succ])
  refine wpAnyH_take (i := 1) (v := ?_) rfl (by kernel_rfl) (by kernel_rfl) (by kernel_rfl) (fun _ _ _ h => h) (Or.inl ⟨by rfl, ?_⟩) (by assumption) ?_
  rotate_left
  · intro w hSw; (try dsimp only at hSw); go_simp; (try with_reducible rfl)
  (try simp only [Act.put, List.getElem_toArray, List.getElem_cons_zero, List.getElem_cons_succ, List.setIfInBounds_toArray, List.set_cons_zero, List.set_cons_succ])
  clear hHeld
  refine wpAnyH_ready (rs := [2]) (by kernel_rfl) (by simp) ?_
  refine AllReadyH.cons rfl (fun K hK => ?_) AllReadyH.nil
  have g0 := r3z.cell 0
  have g1 := r3z.cell 1
  have g2 := r3z.cell 2
  have z0 := r3z.frozen 0
  have z1 := r3z.frozen 1
  have z2 := r3z.frozen 2
  have F_own3 := fin3 (p := w.heap.size) (a := .int .i64 W) (b := .int .i64 H) (c := .slice A1 xs.length c1) own3z (row_ne' own3z.1 r3z (by decide)) HB3z (by omega)
  have F_own4 := fin3 (p := w.heap.size) (a := .int .i64 W) (b := .int .i64 H) (c := .slice A1 xs.length c1) own4z (row_ne' own4z.1 r3z (by decide)) HB3z (by omega)
  have x3zs := x3z.far3q (p := w.heap.size) (a := .int .i64 W) (b := .int .i64 H) (c := .slice A1 xs.length c1) (by omega)
  have y3zs := y3z.far3q (p := w.heap.size) (a := .int .i64 W) (b := .int .i64 H) (c := .slice A1 xs.length c1) (by omega)
  have r3zs := r3z.put3q (.int .i64 W) (.int .i64 H) (.slice A1 xs.length c1)
  have s3zs := s3z.far3q (p := w.heap.size) (a := .int .i64 W) (b := .int .i64 H) (c := .slice A1 xs.length c1) (by omega)
  go_simp
  obtain ⟨ws2001, hws⟩ : ∃ v, ((wdQ.setCell ⟨w.heap.size, 0, none⟩ (.int .i64 W)).setCell ⟨w.heap.size, 1, none⟩ (.int .i64 H)).setCell ⟨w.heap.size, 2, none⟩ (.slice A1 xs.length c1) = v := ⟨_, rfl⟩
  rw [hws] at x3zs y3zs r3zs s3zs F_own3 F_own4 ⊢
  clear hws g0 g1 g2 z0 z1 z2
  have own3zs := F_own3.1
  have own4zs := F_own4.1
  have HB3zs := F_own3.2
  clear F_own3 F_own4
  refine hK.out _ _ (by exact ⟨x3zs.cell 0, x3zs.cell 1, x3zs.cell 2, y3zs.cell 0, y3zs.cell 1, y3zs.cell 2⟩) (fun hHeld => ?_)
  clear hK K
  (try simp only [Act.put, List.getElem_toArray, List.getElem_cons_zero, List.getElem_cons_succ, List.setIfInBounds_toArray, List.set_cons_zero, List.set_cons_succ])
  clear hHeld
  refine wpAnyH_ready (rs := [3]) (by kernel_rfl) (by simp) ?_
  refine AllReadyH.cons rfl (fun K hK => ?_) AllReadyH.nil
  have g0 := s3zs.cell 0
  have g1 := s3zs.cell 1
  have g2 := s3zs.cell 2
  have z0 := s3zs.frozen 0
  have z1 := s3zs.frozen 1
  have z2 := s3zs.frozen 2
  have F_own3 := fin3 (p := (w.heap.size + 1)) (a := .int .i64 W2) (b := .int .i64 H2) (c := .slice A2 ys.length c2) own3zs (row_ne' own3zs.1 s3zs (by decide)) HB3zs (by omega)
  have F_own4 := fin3 (p := (w.heap.size + 1)) (a := .int .i64 W2) (b := .int .i64 H2) (c := .slice A2 ys.length c2) own4zs (row_ne' own4zs.1 s3zs (by decide)) HB3zs (by omega)
  have x3zss := x3zs.far3q (p := (w.heap.size + 1)) (a := .int .i64 W2) (b := .int .i64 H2) (c := .slice A2 ys.length c2) (by omega)
  have y3zss := y3zs.far3q (p := (w.heap.size + 1)) (a := .int .i64 W2) (b := .int .i64 H2) (c := .slice A2 ys.length c2) (by omega)
  have r3zss := r3zs.far3q (p := (w.heap.size + 1)) (a := .int .i64 W2) (b := .int .i64 H2) (c := .slice A2 ys.length c2) (by omega)
  have s3zss := s3zs.put3q (.int .i64 W2) (.int .i64 H2) (.slice A2 ys.length c2)
  go_simp
  obtain ⟨ws2002, hws⟩ : ∃ v, ((ws2001.setCell ⟨(w.heap.size + 1), 0, none⟩ (.int .i64 W2)).setCell ⟨(w.heap.size + 1), 1, none⟩ (.int .i64 H2)).setCell ⟨(w.heap.size + 1), 2, none⟩ (.slice A2 ys.length c2) = v := ⟨_, rfl⟩
  rw [hws] at x3zss y3zss r3zss s3zss F_own3 F_own4 ⊢
  clear hws g0 g1 g2 z0 z1 z2
  have own3zss := F_own3.1
  have own4zss := F_own4.1
  have HB3zss := F_own3.2
  clear F_own3 F_own4
  refine hK.out _ _ (by exact ⟨x3zss.cell 0, x3zss.cell 1, x3zss.cell 2, y3zss.cell 0, y3zss.cell 1, y3zss.cell 2⟩) (fun hHeld => ?_)
  clear hK K
  (try simp only [Act.put, List.getElem_toArray, List.getElem_cons_zero, List.getElem_cons_succ, List.setIfInBounds_toArray, List.set_cons_zero, List.set_cons_succ])
  refine wpAnyH_done (by kernel_rfl) ?_ _
  refine NoPanic.normal ?_
  have g0 := r3zss.cell 0
  have g1 := r3zss.cell 1
  have g2 := r3zss.cell 2
  have k0 := s3zss.cell 0
  have k1 := s3zss.cell 1
  have k2 := s3zss.cell 2
  go_wp2
  exact bodyPost_ret (v := .tuple #[chartV W H (.slice A1 xs.length c1), chartV W2 H2 (.slice A2 ys.length c2)]) (by simp [results, Try.results23, go_sem, g0, g1, g2, k0, k1, k2]) rfl ⟨W, H, A1, c1, xs, W2, H2, A2, c2, ys, rfl, hsm, hsm2, own3zss, own4zss, HB3zss⟩
set_option maxRecDepth 100000 in
set_option maxHeartbeats 4000000 in
theorem drawSwappedColors_any (A : Option Addr) (n c B : Nat) (w : World) (h : RdB w B A n c) (hB : B ≤ w.heap.size) (hn : n ≤ 65536) : Calls Try.prog 15 #[.slice A n c] w (GaveCharts w) := by
  have hb0 := ((Below.refl w.heap.size w).alloc (Nat.le_refl _) (.cells #[.int .i64 0, .int .i64 0, .slice none 0 0] 26)).alloc (by simp) (.cells #[.int .i64 0, .int .i64 0, .slice none 0 0] 26)
  have r0 := (Blk.new w #[.int .i64 0, .int .i64 0, .slice none 0 0] 26).alloc (.cells #[.int .i64 0, .int .i64 0, .slice none 0 0] 26)
  have s0 := (Blk.new (w.alloc (.cells #[.int .i64 0, .int .i64 0, .slice none 0 0] 26)) #[.int .i64 0, .int .i64 0, .slice none 0 0] 26).at_ (q := w.heap.size + 1) (by simp)
  have hR := (h.alloc hB (.cells #[.int .i64 0, .int .i64 0, .slice none 0 0] 26)).alloc (by simp; omega) (.cells #[.int .i64 0, .int .i64 0, .slice none 0 0] 26)
  go_enter Try.func15, Try.ntmps15
  go_wp2_with fail
  refine (drawBestShift_any A n c B _ hR (by simp; omega) hn).mono ?_
  rintro e w1 ⟨W, H, A1, c1, xs, W2, H2, A2, c2, ys, rfl, hsm, hsm2, own, own2, hb1⟩
  have r1 := r0.all hb1
  have s1 := s0.all hb1
  have HB1 := hb0.trans (hb1.mono (by simp; omega))
  replace own := own.mono (show w.heap.size ≤ _ by simp; omega)
  replace own2 := own2.mono (show w.heap.size ≤ _ by simp; omega)
  clear hb0 r0 s0 hR hb1
  have g0 := r1.cell 0
  have g1 := r1.cell 1
  have g2 := r1.cell 2
  have z0 := r1.frozen 0
  have z1 := r1.frozen 1
  have z2 := r1.frozen 2
  have k0 := s1.cell 0
  have k1 := s1.cell 1
  have k2 := s1.cell 2
  have y0 := s1.frozen 0
  have y1 := s1.frozen 1
  have y2 := s1.frozen 2
  have F1 := fin3 (p := w.heap.size) (a := .int .i64 W) (b := .int .i64 H) (c := .slice A1 xs.length c1) own (row_ne' own.1 r1 (by decide)) HB1 (Nat.le_refl _)
  have F1' := fin3 (p := w.heap.size) (a := .int .i64 W) (b := .int .i64 H) (c := .slice A1 xs.length c1) own2 (row_ne' own2.1 r1 (by decide)) HB1 (Nat.le_refl _)
  have s2 := s1.far3q (p := w.heap.size) (a := .int .i64 W) (b := .int .i64 H) (c := .slice A1 xs.length c1) (by omega)
  have F2 := fin3 (p := w.heap.size + 1) (a := .int .i64 W2) (b := .int .i64 H2) (c := .slice A2 ys.length c2) F1.1 (row_ne' F1.1.1 s2 (by decide)) F1.2 (by omega)
  have F2' := fin3 (p := w.heap.size + 1) (a := .int .i64 W2) (b := .int .i64 H2) (c := .slice A2 ys.length c2) F1'.1 (row_ne' F1'.1.1 s2 (by decide)) F1.2 (by omega)
  go_wp2
  exact bodyPost_ret (v := .tuple #[chartV W H (.slice A1 xs.length c1), chartV W2 H2 (.slice A2 ys.length c2)]) (by simp [results, Try.results15, go_sem, g0, g1, g2, k0, k1, k2]) rfl ⟨W, H, A1, c1, xs, W2, H2, A2, c2, ys, rfl, hsm, hsm2, F2.1, F2'.1, F2.2⟩
end Go.Proofs.Ytgkflgfjbaobcaa
