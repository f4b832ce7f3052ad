/- The draws of chapter 2 that the law on parts takes. Condition: a code of at most 65536 bytes. -/
import Derived.Test.YtbhdgpkfighjfaaDrawChart
import Derived.Test.YtbhdgpkfighjfaaDrawBase
namespace Go.Proofs.Ytbhdgpkfighjfaa
open Go.RowKit

theorem Blk.far3' {w : World} {p q : Nat} {t : TypeId} {cs : Array Value} {a b c : Value} (h : Blk w q t cs) (hp : q ≠ p) : Blk (((w.setCell ⟨p, 0, none⟩ a).setCell ⟨p, 1, none⟩ b).setCell ⟨p, 2, none⟩ c) q t cs :=
  ((h.far (a := ⟨p, 0, none⟩) hp a).far (a := ⟨p, 1, none⟩) hp b).far (a := ⟨p, 2, none⟩) hp c
/-- A chart drawn, with sides that are nearly sides, and its numbers. -/
def Small9 (W H : Int) (xs : List Int) : Prop := xs.length ≤ 1000 ∧ Side9 W ∧ Side9 H
def GaveNums2 (w : World) (e : Ending) (w' : World) : Prop := ∃ (W H : Int) (A : Option Addr) (c : Nat) (xs : List Int) (r q : Int), e = .returned (.tuple #[chartV W H (.slice A xs.length c), .int .i64 r, .int .i64 q]) ∧ Small9 W H xs ∧ I64 r ∧ I64 q ∧ Own w' w.heap.size (.slice A xs.length c) xs ∧ Below w.heap.size w w'
theorem wrap_i64 (x : Int) : I64 (IntKind.i64.wrap x) := by
  unfold I64
  simp only [IntKind.wrap, IntKind.bits, IntKind.signed]
  simp
  (try split) <;> omega
theorem Blk.put3' {w : World} {p : Nat} {t : TypeId} {a b c : Value} (h : Blk w p t #[a, b, c]) (a' b' c' : Value) : Blk (((w.setCell ⟨p, 0, none⟩ a').setCell ⟨p, 1, none⟩ b').setCell ⟨p, 2, none⟩ c') p t #[a', b', c'] := by
  have := ((h.set_ 0 a').set_ 1 b').set_ 2 c'
  simpa using this
set_option maxRecDepth 100000 in
set_option maxHeartbeats 4000000 in
theorem drawKnotAt_any (A : Option Addr) (n c B : Nat) (w : World) (h : RdB w B A n c) (hB : B ≤ w.heap.size) (hn : n ≤ 65536) : Calls Try.prog 13 #[.slice A n c] w (GaveNums2 w) := by
  have hb0 := (Below.refl w.heap.size w).alloc (Nat.le_refl _) (.cells #[.int .i64 0, .int .i64 0, .slice none 0 0] 26)
  have r0 := (Blk.new w #[.int .i64 0, .int .i64 0, .slice none 0 0] 26).alloc (.cells #[.slice A n c, .int .i64 0, .int .u64 0] 47)
  have hc0 : Cur ((w.alloc (.cells #[.int .i64 0, .int .i64 0, .slice none 0 0] 26)).alloc (.cells #[.slice A n c, .int .i64 0, .int .u64 0] 47)) (w.heap.size + 1) 0 := by
    have := cur_new (h.alloc hB (.cells #[.int .i64 0, .int .i64 0, .slice none 0 0] 26)) (by simp; omega) hn
    simpa using this
  have hb1 := hb0.alloc (by simp) (.cells #[.slice A n c, .int .i64 0, .int .u64 0] 47)
  clear h hb0
  go_enter Try.func13, Try.ntmps13
  go_wp2_with fail
  refine (chart_any9 (w.heap.size + 1) 0 _ hc0 (by omega)).mono ?_
  rintro e w1 ⟨W, H, A1, c1, xs, rfl, hsm, own, hc1, hg1⟩
  have r1 := r0.mark hg1 (fun z hz => by cases hz; omega)
  have HB1 := hb1.trans (grown_below (B := w.heap.size) hg1 (by omega) (by simp; omega))
  have hne1 := fun z' hz' => row_ne own.1 (show Blk w1 (w.heap.size + 1) 47 _ from hc1.choose_spec.choose_spec.choose_spec.choose_spec.choose_spec.choose_spec.1) (by decide) z' hz'
  replace own := own.mono (show w.heap.size ≤ _ by simp; omega)
  have hp1 := hc1.lt
  clear hc0 hg1 r0 hb1
  have Bx := Blk.new w1 #[.int .i64 W, .int .i64 H, .slice A1 xs.length c1] 26
  have hal := (Below.refl w1.heap.size w1).alloc (Nat.le_refl _) (.cells #[.int .i64 W, .int .i64 H, .slice A1 xs.length c1] 26)
  have C := hc1.all hal
  have Br := r1.all hal
  have O := own.all hal
  have HH := HB1.alloc HB1.size (.cells #[.int .i64 W, .int .i64 H, .slice A1 xs.length c1] 26)
  have hsides := hsm.2
  unfold Side9 at hsides
  obtain ⟨⟨hW0, hW9⟩, hH0, hH9⟩ := hsides
  have hwH : IntKind.i64.wrap (H + 1) = H + 1 := IntWalk.i64_in _ (by omega)
  have hwW : IntKind.i64.wrap (W + 1) = W + 1 := IntWalk.i64_in _ (by omega)
  have ex0 := Bx.cell 0
  have ex1 := Bx.cell 1
  have ex2 := Bx.cell 2
  clear hc1 r1 own HB1 hal
  go_wp2
  obtain ⟨wX, hwX⟩ : ∃ wX, w1.alloc (.cells #[.int .i64 W, .int .i64 H, .slice A1 xs.length c1] 26) = wX := ⟨_, rfl⟩
  rw [hwX] at Bx C Br O HH ex0 ex1 ex2 ⊢
  clear hwX
  refine wp_region_noPanic ?_
  refine wp_region_held_drew (S := (fun w' => w'.cell? ⟨w1.heap.size, 0, none⟩ = some (.int .i64 W) ∧ w'.cell? ⟨w1.heap.size, 1, none⟩ = some (.int .i64 H) ∧ w'.cell? ⟨w1.heap.size, 2, none⟩ = some (.slice A1 xs.length c1))) (by kernel_rfl) (by go_keep) (fun hHeld => ?_)
  have C_0 := cur_drew C
  have Bx_0 : Blk wX.drew _ _ _ := Bx.all (low_drewN wX 1)
  have Br_0 : Blk wX.drew _ _ _ := Br.all (low_drewN wX 1)
  have O_0 : Own wX.drew _ _ _ := O.all (low_drewN wX 1)
  have HH_0 := belowD HH
  obtain ⟨wd0, hwd⟩ : ∃ v, wX.drew = v := ⟨_, rfl⟩
  rw [hwd] at hHeld C_0 Bx_0 Br_0 O_0 HH_0 ⊢
  clear hwd
  refine wpAnyH_take (i := 0) (v := ?_) rfl (by kernel_rfl) (by kernel_rfl) (by kernel_rfl) (fun _ _ _ h => h) (Or.inl ⟨by rfl, ?_⟩) (by assumption) ?_
  rotate_left
  · intro w hSw; (try dsimp only at hSw); go_simp; (try with_reducible rfl)
  (try simp only [Act.put, List.getElem_toArray, List.getElem_cons_zero, List.setIfInBounds_toArray, List.set_cons_zero, List.set_cons_succ])
  refine wpAnyH_take (i := 1) (v := ?_) rfl (by kernel_rfl) (by kernel_rfl) (by kernel_rfl) (fun _ _ _ h => h) (Or.inl ⟨by rfl, ?_⟩) (by assumption) ?_
  rotate_left
  · intro w hSw; (try dsimp only at hSw); go_simp; (try with_reducible rfl)
  (try simp only [Act.put, List.getElem_toArray, List.getElem_cons_zero, List.getElem_cons_succ, List.setIfInBounds_toArray, List.set_cons_zero, List.set_cons_succ])
  refine wpAnyH_take (i := 2) (v := ?_) rfl (by kernel_rfl) (by kernel_rfl) (by kernel_rfl) (fun _ _ _ h => h) (Or.inl ⟨by rfl, ?_⟩) (by assumption) ?_
  rotate_left
  · intro w hSw; (try dsimp only at hSw); go_simp; (try with_reducible rfl)
  (try simp only [Act.put, List.getElem_toArray, List.getElem_cons_zero, List.getElem_cons_succ, List.setIfInBounds_toArray, List.set_cons_zero, List.set_cons_succ])
  refine wpAnyH_take (i := 3) (v := ?_) rfl (by kernel_rfl) (by kernel_rfl) (by kernel_rfl) (fun _ _ _ h => h) (Or.inl ⟨by rfl, ?_⟩) (by assumption) ?_
  rotate_left
  · intro w hSw; (try dsimp only at hSw); go_simp; (try with_reducible rfl)
  (try simp only [Act.put, List.getElem_toArray, List.getElem_cons_zero, List.getElem_cons_succ, List.setIfInBounds_toArray, List.set_cons_zero, List.set_cons_succ])
  refine wpAnyH_take (i := 4) (v := ?_) rfl (by kernel_rfl) (by kernel_rfl) (by kernel_rfl) (fun _ _ _ h => h) (Or.inl ⟨by rfl, ?_⟩) (by assumption) ?_
  rotate_left
  · intro w hSw; (try dsimp only at hSw); go_simp; (try with_reducible rfl)
  (try simp only [Act.put, List.getElem_toArray, List.getElem_cons_zero, List.getElem_cons_succ, List.setIfInBounds_toArray, List.set_cons_zero, List.set_cons_succ])
  refine wpAnyH_take (i := 6) (v := ?_) rfl (by kernel_rfl) (by kernel_rfl) (by kernel_rfl) (fun _ _ _ h => h) (Or.inl ⟨by rfl, ?_⟩) (by assumption) ?_
  rotate_left
  · intro w hSw; (try dsimp only at hSw); go_simp; (try with_reducible rfl)
  (try simp only [Act.put, List.getElem_toArray, List.getElem_cons_zero, List.getElem_cons_succ, List.setIfInBounds_toArray, List.set_cons_zero, List.set_cons_succ])
  refine wpAnyH_take (i := 10) (v := ?_) rfl (by kernel_rfl) (by kernel_rfl) (by kernel_rfl) (fun _ _ _ h => h) (Or.inl ⟨by rfl, ?_⟩) (by assumption) ?_
  rotate_left
  · intro w hSw; (try dsimp only at hSw); go_simp; (try with_reducible rfl)
  (try simp only [Act.put, List.getElem_toArray, List.getElem_cons_zero, List.getElem_cons_succ, List.setIfInBounds_toArray, List.set_cons_zero, List.set_cons_succ])
  refine wpAnyH_take (i := 11) (v := ?_) rfl (by kernel_rfl) (by kernel_rfl) (by kernel_rfl) (fun _ _ _ h => h) (Or.inl ⟨by rfl, ?_⟩) (by assumption) ?_
  rotate_left
  · intro w hSw; (try dsimp only at hSw); go_simp; (try with_reducible rfl)
  (try simp only [Act.put, List.getElem_toArray, List.getElem_cons_zero, List.getElem_cons_succ, List.setIfInBounds_toArray, List.set_cons_zero, List.set_cons_succ])
  refine wpAnyH_take (i := 12) (v := ?_) rfl (by kernel_rfl) (by kernel_rfl) (by kernel_rfl) (fun _ _ _ h => h) (Or.inl ⟨by rfl, ?_⟩) (by assumption) ?_
  rotate_left
  · intro w hSw; (try dsimp only at hSw); go_simp; (try with_reducible rfl)
  (try simp only [Act.put, List.getElem_toArray, List.getElem_cons_zero, List.getElem_cons_succ, List.setIfInBounds_toArray, List.set_cons_zero, List.set_cons_succ])
  refine wpAnyH_take (i := 13) (v := ?_) rfl (by kernel_rfl) (by kernel_rfl) (by kernel_rfl) (fun _ _ _ h => h) (Or.inl ⟨by rfl, ?_⟩) (by assumption) ?_
  rotate_left
  · intro w hSw; (try dsimp only at hSw); go_simp; (try with_reducible rfl)
  (try simp only [Act.put, List.getElem_toArray, List.getElem_cons_zero, List.getElem_cons_succ, List.setIfInBounds_toArray, List.set_cons_zero, List.set_cons_succ])
  refine wpAnyH_take (i := 15) (v := ?_) rfl (by kernel_rfl) (by kernel_rfl) (by kernel_rfl) (fun _ _ _ h => h) (Or.inl ⟨by rfl, ?_⟩) (by assumption) ?_
  rotate_left
  · intro w hSw; (try dsimp only at hSw); go_simp; (try with_reducible rfl)
  (try simp only [Act.put, List.getElem_toArray, List.getElem_cons_zero, List.getElem_cons_succ, List.setIfInBounds_toArray, List.set_cons_zero, List.set_cons_succ])
  clear hHeld
  refine wpAnyH_ready (rs := [5]) (by kernel_rfl) (by simp) ?_
  refine AllReadyH.cons rfl (fun K hK => ?_) AllReadyH.nil
  go_simp
  refine (pick_any (w.heap.size + 1) (0 + 1000) (H + 1) _ C_0 (by omega) (by omega) (by omega)).mono ?_
  rintro e wq1 ⟨x1, rfl, hx1, hc, hg⟩
  have C_1 := hc
  have Bx_1 := Bx_0.mark hg (fun z hz => by cases hz; omega)
  have Br_1 := Br_0.mark hg (fun z hz => by cases hz; omega)
  have O_1 := O_0.mark hg (fun z z' hz hz' => by cases hz; exact fun e => hne1 z' hz' e.symm)
  have HH_1 := HH_0.trans (grown_below (B := w.heap.size) hg (by omega) HH_0.size)
  clear hc hg
  refine hK.out _ _ (by exact ⟨Bx_1.cell 0, Bx_1.cell 1, Bx_1.cell 2⟩) (fun hHeld => ?_)
  clear hK K
  (try simp only [Act.put, List.getElem_toArray, List.getElem_cons_zero, List.getElem_cons_succ, List.setIfInBounds_toArray, List.set_cons_zero, List.set_cons_succ])
  clear hHeld
  refine wpAnyH_ready (rs := [7]) (by kernel_rfl) (by simp) ?_
  refine AllReadyH.cons rfl (fun K hK => ?_) AllReadyH.nil
  go_simp
  refine (pick_any (w.heap.size + 1) ((0 + 1000) + 2) (9) _ C_1 (by omega) (by omega) (by omega)).mono ?_
  rintro e wq2 ⟨x2, rfl, hx2, hc, hg⟩
  have C_2 := hc
  have Bx_2 := Bx_1.mark hg (fun z hz => by cases hz; omega)
  have Br_2 := Br_1.mark hg (fun z hz => by cases hz; omega)
  have O_2 := O_1.mark hg (fun z z' hz hz' => by cases hz; exact fun e => hne1 z' hz' e.symm)
  have HH_2 := HH_1.trans (grown_below (B := w.heap.size) hg (by omega) HH_1.size)
  clear hc hg
  refine hK.out _ _ (by exact ⟨Bx_2.cell 0, Bx_2.cell 1, Bx_2.cell 2⟩) (fun hHeld => ?_)
  clear hK K
  (try simp only [Act.put, List.getElem_toArray, List.getElem_cons_zero, List.getElem_cons_succ, List.setIfInBounds_toArray, List.set_cons_zero, List.set_cons_succ])
  refine wpAnyH_take (i := 8) (v := ?_) rfl (by kernel_rfl) (by kernel_rfl) (by kernel_rfl) (fun _ _ _ h => h) (Or.inl ⟨by rfl, ?_⟩) (by assumption) ?_
  rotate_left
  · intro w hSw; (try dsimp only at hSw); go_simp; (try with_reducible rfl)
  (try simp only [Act.put, List.getElem_toArray, List.getElem_cons_zero, List.getElem_cons_succ, List.setIfInBounds_toArray, List.set_cons_zero, List.set_cons_succ])
  refine wpAnyH_take (i := 9) (v := ?_) rfl (by kernel_rfl) (by kernel_rfl) (by kernel_rfl) (fun _ _ _ h => h) (Or.inl ⟨by rfl, ?_⟩) (by assumption) ?_
  rotate_left
  · intro w hSw; (try dsimp only at hSw); go_simp; (try with_reducible rfl)
  (try simp only [Act.put, List.getElem_toArray, List.getElem_cons_zero, List.getElem_cons_succ, List.setIfInBounds_toArray, List.set_cons_zero, List.set_cons_succ])
  clear hHeld
  refine wpAnyH_ready (rs := [14]) (by kernel_rfl) (by simp) ?_
  refine AllReadyH.cons rfl (fun K hK => ?_) AllReadyH.nil
  go_simp
  refine (pick_any (w.heap.size + 1) (((0 + 1000) + 2) + 2) (W + 1) _ C_2 (by omega) (by omega) (by omega)).mono ?_
  rintro e wq3 ⟨x3, rfl, hx3, hc, hg⟩
  have C_3 := hc
  have Bx_3 := Bx_2.mark hg (fun z hz => by cases hz; omega)
  have Br_3 := Br_2.mark hg (fun z hz => by cases hz; omega)
  have O_3 := O_2.mark hg (fun z z' hz hz' => by cases hz; exact fun e => hne1 z' hz' e.symm)
  have HH_3 := HH_2.trans (grown_below (B := w.heap.size) hg (by omega) HH_2.size)
  clear hc hg
  refine hK.out _ _ (by exact ⟨Bx_3.cell 0, Bx_3.cell 1, Bx_3.cell 2⟩) (fun hHeld => ?_)
  clear hK K
  (try simp only [Act.put, List.getElem_toArray, List.getElem_cons_zero, List.getElem_cons_succ, List.setIfInBounds_toArray, List.set_cons_zero, List.set_cons_succ])
  clear hHeld
  refine wpAnyH_ready (rs := [16]) (by kernel_rfl) (by simp) ?_
  refine AllReadyH.cons rfl (fun K hK => ?_) AllReadyH.nil
  go_simp
  refine (pick_any (w.heap.size + 1) ((((0 + 1000) + 2) + 2) + 2) (9) _ C_3 (by omega) (by omega) (by omega)).mono ?_
  rintro e wq4 ⟨x4, rfl, hx4, hc, hg⟩
  have C_4 := hc
  have Bx_4 := Bx_3.mark hg (fun z hz => by cases hz; omega)
  have Br_4 := Br_3.mark hg (fun z hz => by cases hz; omega)
  have O_4 := O_3.mark hg (fun z z' hz hz' => by cases hz; exact fun e => hne1 z' hz' e.symm)
  have HH_4 := HH_3.trans (grown_below (B := w.heap.size) hg (by omega) HH_3.size)
  clear hc hg
  refine hK.out _ _ (by exact ⟨Bx_4.cell 0, Bx_4.cell 1, Bx_4.cell 2⟩) (fun hHeld => ?_)
  clear hK K
  (try simp only [Act.put, List.getElem_toArray, List.getElem_cons_zero, List.getElem_cons_succ, List.setIfInBounds_toArray, List.set_cons_zero, List.set_cons_succ])
  refine wpAnyH_take (i := 17) (v := ?_) rfl (by kernel_rfl) (by kernel_rfl) (by kernel_rfl) (fun _ _ _ h => h) (Or.inl ⟨by rfl, ?_⟩) (by assumption) ?_
  rotate_left
  · intro w hSw; (try dsimp only at hSw); go_simp; (try with_reducible rfl)
  (try simp only [Act.put, List.getElem_toArray, List.getElem_cons_zero, List.getElem_cons_succ, List.setIfInBounds_toArray, List.set_cons_zero, List.set_cons_succ])
  refine wpAnyH_take (i := 18) (v := ?_) rfl (by kernel_rfl) (by kernel_rfl) (by kernel_rfl) (fun _ _ _ h => h) (Or.inl ⟨by rfl, ?_⟩) (by assumption) ?_
  rotate_left
  · intro w hSw; (try dsimp only at hSw); go_simp; (try with_reducible rfl)
  (try simp only [Act.put, List.getElem_toArray, List.getElem_cons_zero, List.getElem_cons_succ, List.setIfInBounds_toArray, List.set_cons_zero, List.set_cons_succ])
  clear hHeld
  refine wpAnyH_ready (rs := [19]) (by kernel_rfl) (by simp) ?_
  refine AllReadyH.cons rfl (fun K hK => ?_) AllReadyH.nil
  have g0_5 := Br_4.cell 0
  have g1_5 := Br_4.cell 1
  have g2_5 := Br_4.cell 2
  have z0_5 := Br_4.frozen 0
  have z1_5 := Br_4.frozen 1
  have z2_5 := Br_4.frozen 2
  have F_5 := fin3 (p := w.heap.size) (a := .int .i64 W) (b := .int .i64 H) (c := .slice A1 xs.length c1) O_4 (row_ne' O_4.1 Br_4 (by decide)) HH_4 (Nat.le_refl _)
  have Bx_5 := Bx_4.far3' (p := w.heap.size) (a := .int .i64 W) (b := .int .i64 H) (c := .slice A1 xs.length c1) (by omega)
  have Br_5 := Br_4.put3' (.int .i64 W) (.int .i64 H) (.slice A1 xs.length c1)
  go_simp
  refine hK.out _ _ (by exact ⟨Bx_5.cell 0, Bx_5.cell 1, Bx_5.cell 2⟩) (fun hHeld => ?_)
  clear hK K
  (try simp only [Act.put, List.getElem_toArray, List.getElem_cons_zero, List.getElem_cons_succ, List.setIfInBounds_toArray, List.set_cons_zero, List.set_cons_succ])
  refine wpAnyH_take (i := 20) (v := ?_) rfl (by kernel_rfl) (by kernel_rfl) (by kernel_rfl) (fun _ _ _ h => h) (Or.inl ⟨by rfl, ?_⟩) (by assumption) ?_
  rotate_left
  · intro w hSw; (try dsimp only at hSw); go_simp; (try with_reducible rfl)
  (try simp only [Act.put, List.getElem_toArray, List.getElem_cons_zero, List.getElem_cons_succ, List.setIfInBounds_toArray, List.set_cons_zero, List.set_cons_succ])
  refine wpAnyH_take (i := 21) (v := ?_) rfl (by kernel_rfl) (by kernel_rfl) (by kernel_rfl) (fun _ _ _ h => h) (Or.inl ⟨by rfl, ?_⟩) (by assumption) ?_
  rotate_left
  · intro w hSw; (try dsimp only at hSw); go_simp; (try with_reducible rfl)
  (try simp only [Act.put, List.getElem_toArray, List.getElem_cons_zero, List.getElem_cons_succ, List.setIfInBounds_toArray, List.set_cons_zero, List.set_cons_succ])
  refine wpAnyH_done (by kernel_rfl) ?_ _
  refine NoPanic.normal ?_
  have g0 := Br_5.cell 0
  have g1 := Br_5.cell 1
  have g2 := Br_5.cell 2
  have F := F_5
  go_wp2
  refine bodyPost_ret (v := .tuple #[chartV W H (.slice A1 xs.length c1), .int .i64 (IntKind.i64.wrap (x1 - IntKind.i64.wrap (x2.tdiv 8))), .int .i64 (IntKind.i64.wrap (x3 - IntKind.i64.wrap (x4.tdiv 8)))]) (by simp [results, Try.results13, go_sem, g0, g1, g2]) rfl ⟨W, H, A1, c1, xs, _, _, rfl, hsm, wrap_i64 _, wrap_i64 _, F.1, F.2⟩

set_option maxRecDepth 100000 in
set_option maxHeartbeats 4000000 in
theorem drawPlainChart_any (A : Option Addr) (n c B : Nat) (w : World) (h : RdB w B A n c) (hB : B ≤ w.heap.size) (hn : n ≤ 65536) : Calls Try.prog 15 #[.slice A n c] w fun e w' => ∃ a b d : Int, e = .returned (.tuple #[.int .i64 a, .int .i64 b, .int .i64 d]) ∧ I64 a ∧ I64 b ∧ I64 d ∧ Below w.heap.size w w' := by
  have hc0 : Cur (w.alloc (.cells #[.slice A n c, .int .i64 0, .int .u64 0] 47)) w.heap.size 0 := cur_new h hB hn
  have hb1 := (Below.refl w.heap.size w).alloc (Nat.le_refl _) (.cells #[.slice A n c, .int .i64 0, .int .u64 0] 47)
  clear h
  go_enter Try.func15, Try.ntmps15
  go_wp2_with fail
  refine (among_lit w.heap.size 0 (w.heap.size + 1) 5 [1, 3, 8, 0, 9] (w.alloc (.cells #[.slice A n c, .int .i64 0, .int .u64 0] 47)) (by simp) rfl hc0 (by omega) (by decide) (by decide) (I64.lit (by decide))).mono ?_
  rintro e w1 ⟨y1, rfl, hy1, hc1, hg1⟩
  have i1 : I64 y1 := I64.lit (by decide) y1 hy1
  have HB1 := hb1.trans (grown_below (B := w.heap.size) hg1 (Nat.le_refl _) (by simp))
  clear hc0 hg1 hb1 hy1
  go_wp2_with fail
  refine (among_lit w.heap.size (0 + 2) w1.heap.size 5 [1, 2, 8, 0, 9] w1 rfl rfl hc1 (by omega) (by decide) (by decide) (I64.lit (by decide))).mono ?_
  rintro e w2 ⟨y2, rfl, hy2, hc2, hg2⟩
  have i2 : I64 y2 := I64.lit (by decide) y2 hy2
  have HB2 := HB1.trans (grown_below (B := w.heap.size) hg2 (Nat.le_refl _) HB1.size)
  clear hc1 hg2 HB1 hy2
  go_wp2_with fail
  refine (color_any w.heap.size (0 + 2 + 2) _ hc2 (by omega)).mono ?_
  rintro e w3 ⟨y3, rfl, hy3, hc3, hg3⟩
  have HB3 := HB2.trans (grown_below (B := w.heap.size) hg3 (Nat.le_refl _) HB2.size)
  clear hc2 hg3 HB2 hc3
  go_wp2
  go_ret3
  exact ⟨y1, y2, y3, rfl, i1, i2, ⟨by omega, by omega⟩, HB3⟩
end Go.Proofs.Ytbhdgpkfighjfaa
