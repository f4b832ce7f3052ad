/- The draw of a part that is put into a chart. Condition: a code of at most 65536 bytes. -/
import Derived.Test.YtbhdgpkfighjfaaDraws2P
namespace Go.Proofs.Ytbhdgpkfighjfaa
open Go.RowKit

def GavePutPart (w : World) (e : Ending) (w' : World) : Prop := ∃ (W H : Int) (A : Option Addr) (c : Nat) (xs : List Int) (pW pH : Int) (A' : Option Addr) (c' : Nat) (ys : List Int) (r q : Int), e = .returned (.tuple #[chartV W H (.slice A xs.length c), chartV pW pH (.slice A' ys.length c'), .int .i64 r, .int .i64 q]) ∧ Small9 W H xs ∧ Small9 pW pH ys ∧ I64 r ∧ I64 q ∧ Own w' w.heap.size (.slice A xs.length c) xs ∧ Own w' w.heap.size (.slice A' ys.length c') ys ∧ Below w.heap.size w w'
theorem mostI_one' (x : Int) : 1 ≤ mostI 1 x ∧ (mostI 1 x = 1 ∨ mostI 1 x = x) := by
  unfold mostI
  split <;> omega
theorem l1Most_v' (a b v : Int) (w : World) (h : mostI a b = v) : Calls Try.prog 21 #[.int .i64 a, .int .i64 b] w fun e w' => e = .returned (.int .i64 v) ∧ w = w' := by
  refine (l1Most_any a b w).mono ?_
  rintro e w' ⟨rfl, hw⟩
  exact ⟨by rw [h], hw⟩
set_option maxRecDepth 100000 in
set_option maxHeartbeats 16000000 in
theorem drawPutPart_any (A : Option Addr) (n c B : Nat) (w : World) (h : RdB w B A n c) (hB : B ≤ w.heap.size) (hn : n ≤ 65536) : Calls Try.prog 11 #[.slice A n c] w (GavePutPart w) := by
  have hb0 := ((Below.refl w.heap.size w).alloc (Nat.le_refl _) (.cells #[.int .i64 0, .int .i64 0, .slice none 0 0] 26)).alloc (by simp) (.cells #[.int .i64 0, .int .i64 0, .slice none 0 0] 26)
  have r0 := ((Blk.new w #[.int .i64 0, .int .i64 0, .slice none 0 0] 26).alloc (.cells #[.int .i64 0, .int .i64 0, .slice none 0 0] 26)).alloc (.cells #[.slice A n c, .int .i64 0, .int .u64 0] 47)
  have s0 := ((Blk.new (w.alloc (.cells #[.int .i64 0, .int .i64 0, .slice none 0 0] 26)) #[.int .i64 0, .int .i64 0, .slice none 0 0] 26).alloc (.cells #[.slice A n c, .int .i64 0, .int .u64 0] 47)).at_ (q := w.heap.size + 1) (by simp)
  have hc0 : Cur (((w.alloc (.cells #[.int .i64 0, .int .i64 0, .slice none 0 0] 26)).alloc (.cells #[.int .i64 0, .int .i64 0, .slice none 0 0] 26)).alloc (.cells #[.slice A n c, .int .i64 0, .int .u64 0] 47)) (w.heap.size + 2) 0 := by
    have := cur_new ((h.alloc hB (.cells #[.int .i64 0, .int .i64 0, .slice none 0 0] 26)).alloc (by simp; omega) (.cells #[.int .i64 0, .int .i64 0, .slice none 0 0] 26)) (by simp; omega) hn
    simpa using this
  have hb1 := hb0.alloc (by simp; omega) (.cells #[.slice A n c, .int .i64 0, .int .u64 0] 47)
  clear h hb0
  go_enter Try.func11, Try.ntmps11
  go_wp2_with fail
  refine (chart_any9 (w.heap.size + 2) 0 _ hc0 (by omega)).mono ?_
  rintro e w1 ⟨W, H, A1, c1, xs, rfl, hsm, own, hc1, hg1⟩
  have r1 := r0.mark hg1 (fun z hz => by cases hz; omega)
  have s1 := s0.mark hg1 (fun z hz => by cases hz; omega)
  have HB1 := hb1.trans (grown_below (B := w.heap.size) hg1 (by omega) (by simp; omega))
  have hne1 := fun z' hz' => row_ne own.1 (show Blk w1 (w.heap.size + 2) 47 _ from hc1.choose_spec.choose_spec.choose_spec.choose_spec.choose_spec.choose_spec.1) (by decide) z' hz'
  replace own := own.mono (show w.heap.size ≤ _ by simp; omega)
  have hp1 := hc1.lt
  clear hc0 hg1 r0 s0 hb1
  have Bx := Blk.new w1 #[.int .i64 W, .int .i64 H, .slice A1 xs.length c1] 26
  have hal := (Below.refl w1.heap.size w1).alloc (Nat.le_refl _) (.cells #[.int .i64 W, .int .i64 H, .slice A1 xs.length c1] 26)
  have C := hc1.all hal
  have R1 := r1.all hal
  have R2 := s1.all hal
  have O1 := own.all hal
  have HH := HB1.alloc HB1.size (.cells #[.int .i64 W, .int .i64 H, .slice A1 xs.length c1] 26)
  have hsides := hsm.2
  unfold Side9 at hsides
  obtain ⟨⟨hW0, hW9⟩, hH0, hH9⟩ := hsides
  clear hc1 r1 s1 own HB1 hal
  go_wp2_with fail
  refine (among_lit (w.heap.size + 2) (0 + 1000) (w1.heap.size + 1) 4 [1, 2, 2, 3] (w1.alloc (.cells #[.int .i64 W, .int .i64 H, .slice A1 xs.length c1] 26)) (by simp) rfl C (by omega) (by decide) (by decide) (I64.lit (by decide))).mono ?_
  rintro e w2 ⟨y1, rfl, hy1, hc, hg⟩
  have hy1b : 1 ≤ y1 ∧ y1 ≤ 3 := by simp at hy1; omega
  replace R1 := R1.mark hg (fun z hz => by cases hz; omega)
  replace R2 := R2.mark hg (fun z hz => by cases hz; omega)
  replace Bx := Bx.mark hg (fun z hz => by cases hz; omega)
  replace O1 := O1.mark hg (fun z z' hz hz' => by cases hz; exact fun e => hne1 z' hz' e.symm)
  replace HH := HH.trans (grown_below (B := w.heap.size) hg (by omega) HH.size)
  replace C := hc
  clear hg hy1
  go_wp2_with fail
  refine (among_lit (w.heap.size + 2) (0 + 1000 + 2) w2.heap.size 3 [1, 2, 3] w2 rfl rfl C (by omega) (by decide) (by decide) (I64.lit (by decide))).mono ?_
  rintro e w3 ⟨y2, rfl, hy2, hc, hg⟩
  have hy2b : 1 ≤ y2 ∧ y2 ≤ 3 := by simp at hy2; omega
  replace R1 := R1.mark hg (fun z hz => by cases hz; omega)
  replace R2 := R2.mark hg (fun z hz => by cases hz; omega)
  replace Bx := Bx.mark hg (fun z hz => by cases hz; omega)
  replace O1 := O1.mark hg (fun z z' hz hz' => by cases hz; exact fun e => hne1 z' hz' e.symm)
  replace HH := HH.trans (grown_below (B := w.heap.size) hg (by omega) HH.size)
  replace C := hc
  clear hg hy2
  obtain ⟨pm, rfl⟩ := Int.eq_ofNat_of_zero_le (show 0 ≤ y1 by omega)
  obtain ⟨pk, rfl⟩ := Int.eq_ofNat_of_zero_le (show 0 ≤ y2 by omega)
  have hmk : pm * pk ≤ 3 * 3 := Nat.mul_le_mul (by omega) (by omega)
  go_wp2_with fail
  refine (plain_any (w.heap.size + 2) (0 + 1000 + 2 + 2) pm pk _ C (by omega) (by omega) (by omega)).mono ?_
  rintro e w4 ⟨W', H', A2, c2, ys, rfl, ⟨rfl, rfl, hyl⟩, own2, hc, hg⟩
  have hne2 := fun z' hz' => row_ne own2.1 (show Blk w4 (w.heap.size + 2) 47 _ from hc.choose_spec.choose_spec.choose_spec.choose_spec.choose_spec.choose_spec.1) (by decide) z' hz'
  replace hc := hc.more (show _ ≤ 1200 by omega)
  have O2 := own2.mono HH.size
  replace R1 := R1.mark hg (fun z hz => by cases hz; omega)
  replace R2 := R2.mark hg (fun z hz => by cases hz; omega)
  replace Bx := Bx.mark hg (fun z hz => by cases hz; omega)
  replace O1 := O1.mark hg (fun z z' hz hz' => by cases hz; exact fun e => hne1 z' hz' e.symm)
  replace HH := HH.trans (grown_below (B := w.heap.size) hg (by omega) HH.size)
  have C := hc
  have hys : ys.length ≤ 1000 := by omega
  have hsm2 : Small9 (pm : Int) (pk : Int) ys := ⟨hys, ⟨by omega, by omega⟩, ⟨by omega, by omega⟩⟩
  clear hg own2 hmk hyl
  obtain ⟨pW, hpW⟩ : ∃ z, (pm : Int) = z := ⟨_, rfl⟩
  obtain ⟨pH, hpH⟩ : ∃ z, (pk : Int) = z := ⟨_, rfl⟩
  rw [hpW, hpH] at hsm2 ⊢
  clear hpW hpH
  have Bp := Blk.new w4 #[.int .i64 pW, .int .i64 pH, .slice A2 ys.length c2] 26
  have hal := (Below.refl w4.heap.size w4).alloc (Nat.le_refl _) (.cells #[.int .i64 pW, .int .i64 pH, .slice A2 ys.length c2] 26)
  have hzx := Bx.lt
  have hzp := C.lt
  replace C := C.all hal
  replace R1 := R1.all hal
  replace R2 := R2.all hal
  replace O1 := O1.all hal
  replace O2 := O2.all hal
  replace Bx := Bx.all hal
  replace HH := HH.alloc HH.size (.cells #[.int .i64 pW, .int .i64 pH, .slice A2 ys.length c2] 26)
  clear hal
  go_wp2_with fail
  refine (one_any (w.heap.size + 2) 1200 20 _ C (by omega) (by omega) (by omega)).mono ?_
  rintro e w5 ⟨d, rfl, hc, hg⟩
  replace R1 := R1.mark hg (fun z hz => by cases hz; omega)
  replace R2 := R2.mark hg (fun z hz => by cases hz; omega)
  replace Bx := Bx.mark hg (fun z hz => by cases hz; omega)
  replace Bp := Bp.mark hg (fun z hz => by cases hz; omega)
  replace O1 := O1.mark hg (fun z z' hz hz' => by cases hz; exact fun e => hne1 z' hz' e.symm)
  replace O2 := O2.mark hg (fun z z' hz hz' => by cases hz; exact fun e => hne2 z' hz' e.symm)
  replace HH := HH.trans (grown_below (B := w.heap.size) hg (by omega) HH.size)
  replace C := hc
  obtain ⟨Q4, hQ4⟩ : ∃ q, w4.heap.size = q := ⟨_, rfl⟩
  rw [hQ4] at Bp hzx hzp ⊢
  clear hQ4
  clear hg
  obtain ⟨M1, hM1⟩ : ∃ M1, mostI 1 H = M1 := ⟨_, rfl⟩
  obtain ⟨M2, hM2⟩ : ∃ M2, mostI 1 W = M2 := ⟨_, rfl⟩
  have hb1 := mostI_one' H
  have hb2 := mostI_one' W
  rw [hM1] at hb1
  rw [hM2] at hb2
  have KM1 := Lib.hid hM1
  have KM2 := Lib.hid hM2
  clear hM1 hM2
  have hrp : Q4 ≠ w.heap.size + 2 := by omega
  cases d with
  | false =>
    have ex0 := Bx.cell 0
    have ex1 := Bx.cell 1
    have ex2 := Bx.cell 2
    have ep0 := Bp.cell 0
    have ep1 := Bp.cell 1
    have ep2 := Bp.cell 2
    go_wp2
    refine wp_region_noPanic ?_
    refine wp_region_held_drew (S := (fun w' => w'.cell? ⟨w1.heap.size, 0, none⟩ = some (.int .i64 W) ∧ w'.cell? ⟨w1.heap.size, 1, none⟩ = some (.int .i64 H) ∧ w'.cell? ⟨w1.heap.size, 2, none⟩ = some (.slice A1 xs.length c1) ∧ w'.cell? ⟨Q4, 0, none⟩ = some (.int .i64 pW) ∧ w'.cell? ⟨Q4, 1, none⟩ = some (.int .i64 pH) ∧ w'.cell? ⟨Q4, 2, none⟩ = some (.slice A2 ys.length c2))) (by kernel_rfl) (by go_keep) (fun hHeld => ?_)
    have C_0 := cur_drew C
    have Bx_0 : Blk w5.drew _ _ _ := Bx.all (low_drewN w5 1)
    have Bp_0 : Blk w5.drew _ _ _ := Bp.all (low_drewN w5 1)
    have R1_0 : Blk w5.drew _ _ _ := R1.all (low_drewN w5 1)
    have R2_0 : Blk w5.drew _ _ _ := R2.all (low_drewN w5 1)
    have O1_0 : Own w5.drew _ _ _ := O1.all (low_drewN w5 1)
    have O2_0 : Own w5.drew _ _ _ := O2.all (low_drewN w5 1)
    have HH_0 := belowD HH
    obtain ⟨wd10, hwd⟩ : ∃ v, w5.drew = v := ⟨_, rfl⟩
    rw [hwd] at hHeld C_0 Bx_0 Bp_0 R1_0 R2_0 O1_0 O2_0 HH_0 ⊢
    clear hwd
    refine wpAnyH_take (i := 0) (v := ?_) rfl (by kernel_rfl) (by kernel_rfl) (by kernel_rfl) (fun _ _ _ h => h) (Or.inl ⟨by rfl, ?_⟩) (by assumption) ?_
    rotate_left
    · intro w hSw; (try dsimp only at hSw); go_simp; (try with_reducible rfl)
    (try simp only [Act.put, List.getElem_toArray, List.getElem_cons_zero, List.setIfInBounds_toArray, List.set_cons_zero, List.set_cons_succ])
    refine wpAnyH_take (i := 1) (v := ?_) rfl (by kernel_rfl) (by kernel_rfl) (by kernel_rfl) (fun _ _ _ h => h) (Or.inl ⟨by rfl, ?_⟩) (by assumption) ?_
    rotate_left
    · intro w hSw; (try dsimp only at hSw); go_simp; (try with_reducible rfl)
    (try simp only [Act.put, List.getElem_toArray, List.getElem_cons_zero, List.getElem_cons_succ, List.setIfInBounds_toArray, List.set_cons_zero, List.set_cons_succ])
    refine wpAnyH_take (i := 2) (v := ?_) rfl (by kernel_rfl) (by kernel_rfl) (by kernel_rfl) (fun _ _ _ h => h) (Or.inl ⟨by rfl, ?_⟩) (by assumption) ?_
    rotate_left
    · intro w hSw; (try dsimp only at hSw); go_simp; (try with_reducible rfl)
    (try simp only [Act.put, List.getElem_toArray, List.getElem_cons_zero, List.getElem_cons_succ, List.setIfInBounds_toArray, List.set_cons_zero, List.set_cons_succ])
    refine wpAnyH_take (i := 3) (v := ?_) rfl (by kernel_rfl) (by kernel_rfl) (by kernel_rfl) (fun _ _ _ h => h) (Or.inl ⟨by rfl, ?_⟩) (by assumption) ?_
    rotate_left
    · intro w hSw; (try dsimp only at hSw); go_simp; (try with_reducible rfl)
    (try simp only [Act.put, List.getElem_toArray, List.getElem_cons_zero, List.getElem_cons_succ, List.setIfInBounds_toArray, List.set_cons_zero, List.set_cons_succ])
    refine wpAnyH_take (i := 4) (v := ?_) rfl (by kernel_rfl) (by kernel_rfl) (by kernel_rfl) (fun _ _ _ h => h) (Or.inl ⟨by rfl, ?_⟩) (by assumption) ?_
    rotate_left
    · intro w hSw; (try dsimp only at hSw); go_simp; (try with_reducible rfl)
    (try simp only [Act.put, List.getElem_toArray, List.getElem_cons_zero, List.getElem_cons_succ, List.setIfInBounds_toArray, List.set_cons_zero, List.set_cons_succ])
    refine wpAnyH_take (i := 7) (v := ?_) rfl (by kernel_rfl) (by kernel_rfl) (by kernel_rfl) (fun _ _ _ h => h) (Or.inl ⟨by rfl, ?_⟩) (by assumption) ?_
    rotate_left
    · intro w hSw; (try dsimp only at hSw); go_simp; (try with_reducible rfl)
    (try simp only [Act.put, List.getElem_toArray, List.getElem_cons_zero, List.getElem_cons_succ, List.setIfInBounds_toArray, List.set_cons_zero, List.set_cons_succ])
    refine wpAnyH_take (i := 11) (v := ?_) rfl (by kernel_rfl) (by kernel_rfl) (by kernel_rfl) (fun _ _ _ h => h) (Or.inl ⟨by rfl, ?_⟩) (by assumption) ?_
    rotate_left
    · intro w hSw; (try dsimp only at hSw); go_simp; (try with_reducible rfl)
    (try simp only [Act.put, List.getElem_toArray, List.getElem_cons_zero, List.getElem_cons_succ, List.setIfInBounds_toArray, List.set_cons_zero, List.set_cons_succ])
    refine wpAnyH_take (i := 12) (v := ?_) rfl (by kernel_rfl) (by kernel_rfl) (by kernel_rfl) (fun _ _ _ h => h) (Or.inl ⟨by rfl, ?_⟩) (by assumption) ?_
    rotate_left
    · intro w hSw; (try dsimp only at hSw); go_simp; (try with_reducible rfl)
    (try simp only [Act.put, List.getElem_toArray, List.getElem_cons_zero, List.getElem_cons_succ, List.setIfInBounds_toArray, List.set_cons_zero, List.set_cons_succ])
    refine wpAnyH_take (i := 13) (v := ?_) rfl (by kernel_rfl) (by kernel_rfl) (by kernel_rfl) (fun _ _ _ h => h) (Or.inl ⟨by rfl, ?_⟩) (by assumption) ?_
    rotate_left
    · intro w hSw; (try dsimp only at hSw); go_simp; (try with_reducible rfl)
    (try simp only [Act.put, List.getElem_toArray, List.getElem_cons_zero, List.getElem_cons_succ, List.setIfInBounds_toArray, List.set_cons_zero, List.set_cons_succ])
    refine wpAnyH_take (i := 16) (v := ?_) rfl (by kernel_rfl) (by kernel_rfl) (by kernel_rfl) (fun _ _ _ h => h) (Or.inl ⟨by rfl, ?_⟩) (by assumption) ?_
    rotate_left
    · intro w hSw; (try dsimp only at hSw); go_simp; (try with_reducible rfl)
    (try simp only [Act.put, List.getElem_toArray, List.getElem_cons_zero, List.getElem_cons_succ, List.setIfInBounds_toArray, List.set_cons_zero, List.set_cons_succ])
    clear hHeld
    refine wpAnyH_ready (rs := [5]) (by kernel_rfl) (by simp) ?_
    refine AllReadyH.cons rfl (fun K hK => ?_) AllReadyH.nil
    go_simp
    refine (l1Most_v' 1 (H) M1 _ KM1.out).mono ?_
    rintro e wq11 ⟨rfl, rfl⟩
    refine hK.out _ _ (by exact ⟨Bx_0.cell 0, Bx_0.cell 1, Bx_0.cell 2, Bp_0.cell 0, Bp_0.cell 1, Bp_0.cell 2⟩) (fun hHeld => ?_)
    clear hK K
    (try simp only [Act.put, List.getElem_toArray, List.getElem_cons_zero, List.getElem_cons_succ, List.setIfInBounds_toArray, List.set_cons_zero, List.set_cons_succ])
    clear hHeld
    refine wpAnyH_ready (rs := [6]) (by kernel_rfl) (by simp) ?_
    refine AllReadyH.cons rfl (fun K hK => ?_) AllReadyH.nil
    go_simp
    refine (pick_any (w.heap.size + 2) (1200 + 2) (M1) _ C_0 (by omega) (by omega) (by omega)).mono ?_
    rintro e wq12 ⟨x12, rfl, hx12, hc, hg⟩
    have C_12 := hc
    have Bx_12 := Bx_0.mark hg (fun z hz => by cases hz; omega)
    have Bp_12 := Bp_0.mark hg (fun z hz => by cases hz; omega)
    have R1_12 := R1_0.mark hg (fun z hz => by cases hz; omega)
    have R2_12 := R2_0.mark hg (fun z hz => by cases hz; omega)
    have O1_12 := O1_0.mark hg (fun z z' hz hz' => by cases hz; exact fun e => hne1 z' hz' e.symm)
    have O2_12 := O2_0.mark hg (fun z z' hz hz' => by cases hz; exact fun e => hne2 z' hz' e.symm)
    have HH_12 := HH_0.trans (grown_below (B := w.heap.size) hg (by omega) HH_0.size)
    clear hc hg
    refine hK.out _ _ (by exact ⟨Bx_12.cell 0, Bx_12.cell 1, Bx_12.cell 2, Bp_12.cell 0, Bp_12.cell 1, Bp_12.cell 2⟩) (fun hHeld => ?_)
    clear hK K
    (try simp only [Act.put, List.getElem_toArray, List.getElem_cons_zero, List.getElem_cons_succ, List.setIfInBounds_toArray, List.set_cons_zero, List.set_cons_succ])
    clear hHeld
    refine wpAnyH_ready (rs := [8]) (by kernel_rfl) (by simp) ?_
    refine AllReadyH.cons rfl (fun K hK => ?_) AllReadyH.nil
    go_simp
    refine (pick_any (w.heap.size + 2) ((1200 + 2) + 2) (9) _ C_12 (by omega) (by omega) (by omega)).mono ?_
    rintro e wq13 ⟨x13, rfl, hx13, hc, hg⟩
    have C_13 := hc
    have Bx_13 := Bx_12.mark hg (fun z hz => by cases hz; omega)
    have Bp_13 := Bp_12.mark hg (fun z hz => by cases hz; omega)
    have R1_13 := R1_12.mark hg (fun z hz => by cases hz; omega)
    have R2_13 := R2_12.mark hg (fun z hz => by cases hz; omega)
    have O1_13 := O1_12.mark hg (fun z z' hz hz' => by cases hz; exact fun e => hne1 z' hz' e.symm)
    have O2_13 := O2_12.mark hg (fun z z' hz hz' => by cases hz; exact fun e => hne2 z' hz' e.symm)
    have HH_13 := HH_12.trans (grown_below (B := w.heap.size) hg (by omega) HH_12.size)
    clear hc hg
    refine hK.out _ _ (by exact ⟨Bx_13.cell 0, Bx_13.cell 1, Bx_13.cell 2, Bp_13.cell 0, Bp_13.cell 1, Bp_13.cell 2⟩) (fun hHeld => ?_)
    clear hK K
    (try simp only [Act.put, List.getElem_toArray, List.getElem_cons_zero, List.getElem_cons_succ, List.setIfInBounds_toArray, List.set_cons_zero, List.set_cons_succ])
    refine wpAnyH_take (i := 9) (v := ?_) rfl (by kernel_rfl) (by kernel_rfl) (by kernel_rfl) (fun _ _ _ h => h) (Or.inl ⟨by rfl, ?_⟩) (by assumption) ?_
    rotate_left
    · intro w hSw; (try dsimp only at hSw); go_simp; (try with_reducible rfl)
    (try simp only [Act.put, List.getElem_toArray, List.getElem_cons_zero, List.getElem_cons_succ, List.setIfInBounds_toArray, List.set_cons_zero, List.set_cons_succ])
    refine wpAnyH_take (i := 10) (v := ?_) rfl (by kernel_rfl) (by kernel_rfl) (by kernel_rfl) (fun _ _ _ h => h) (Or.inl ⟨by rfl, ?_⟩) (by assumption) ?_
    rotate_left
    · intro w hSw; (try dsimp only at hSw); go_simp; (try with_reducible rfl)
    (try simp only [Act.put, List.getElem_toArray, List.getElem_cons_zero, List.getElem_cons_succ, List.setIfInBounds_toArray, List.set_cons_zero, List.set_cons_succ])
    clear hHeld
    refine wpAnyH_ready (rs := [14]) (by kernel_rfl) (by simp) ?_
    refine AllReadyH.cons rfl (fun K hK => ?_) AllReadyH.nil
    go_simp
    refine (l1Most_v' 1 (W) M2 _ KM2.out).mono ?_
    rintro e wq14 ⟨rfl, rfl⟩
    refine hK.out _ _ (by exact ⟨Bx_13.cell 0, Bx_13.cell 1, Bx_13.cell 2, Bp_13.cell 0, Bp_13.cell 1, Bp_13.cell 2⟩) (fun hHeld => ?_)
    clear hK K
    (try simp only [Act.put, List.getElem_toArray, List.getElem_cons_zero, List.getElem_cons_succ, List.setIfInBounds_toArray, List.set_cons_zero, List.set_cons_succ])
    clear hHeld
    refine wpAnyH_ready (rs := [15]) (by kernel_rfl) (by simp) ?_
    refine AllReadyH.cons rfl (fun K hK => ?_) AllReadyH.nil
    go_simp
    refine (pick_any (w.heap.size + 2) (((1200 + 2) + 2) + 2) (M2) _ C_13 (by omega) (by omega) (by omega)).mono ?_
    rintro e wq15 ⟨x15, rfl, hx15, hc, hg⟩
    have C_15 := hc
    have Bx_15 := Bx_13.mark hg (fun z hz => by cases hz; omega)
    have Bp_15 := Bp_13.mark hg (fun z hz => by cases hz; omega)
    have R1_15 := R1_13.mark hg (fun z hz => by cases hz; omega)
    have R2_15 := R2_13.mark hg (fun z hz => by cases hz; omega)
    have O1_15 := O1_13.mark hg (fun z z' hz hz' => by cases hz; exact fun e => hne1 z' hz' e.symm)
    have O2_15 := O2_13.mark hg (fun z z' hz hz' => by cases hz; exact fun e => hne2 z' hz' e.symm)
    have HH_15 := HH_13.trans (grown_below (B := w.heap.size) hg (by omega) HH_13.size)
    clear hc hg
    refine hK.out _ _ (by exact ⟨Bx_15.cell 0, Bx_15.cell 1, Bx_15.cell 2, Bp_15.cell 0, Bp_15.cell 1, Bp_15.cell 2⟩) (fun hHeld => ?_)
    clear hK K
    (try simp only [Act.put, List.getElem_toArray, List.getElem_cons_zero, List.getElem_cons_succ, List.setIfInBounds_toArray, List.set_cons_zero, List.set_cons_succ])
    clear hHeld
    refine wpAnyH_ready (rs := [17]) (by kernel_rfl) (by simp) ?_
    refine AllReadyH.cons rfl (fun K hK => ?_) AllReadyH.nil
    go_simp
    refine (pick_any (w.heap.size + 2) ((((1200 + 2) + 2) + 2) + 2) (9) _ C_15 (by omega) (by omega) (by omega)).mono ?_
    rintro e wq16 ⟨x16, rfl, hx16, hc, hg⟩
    have C_16 := hc
    have Bx_16 := Bx_15.mark hg (fun z hz => by cases hz; omega)
    have Bp_16 := Bp_15.mark hg (fun z hz => by cases hz; omega)
    have R1_16 := R1_15.mark hg (fun z hz => by cases hz; omega)
    have R2_16 := R2_15.mark hg (fun z hz => by cases hz; omega)
    have O1_16 := O1_15.mark hg (fun z z' hz hz' => by cases hz; exact fun e => hne1 z' hz' e.symm)
    have O2_16 := O2_15.mark hg (fun z z' hz hz' => by cases hz; exact fun e => hne2 z' hz' e.symm)
    have HH_16 := HH_15.trans (grown_below (B := w.heap.size) hg (by omega) HH_15.size)
    clear hc hg
    refine hK.out _ _ (by exact ⟨Bx_16.cell 0, Bx_16.cell 1, Bx_16.cell 2, Bp_16.cell 0, Bp_16.cell 1, Bp_16.cell 2⟩) (fun hHeld => ?_)
    clear hK K
    (try simp only [Act.put, List.getElem_toArray, List.getElem_cons_zero, List.getElem_cons_succ, List.setIfInBounds_toArray, List.set_cons_zero, List.set_cons_succ])
    refine wpAnyH_take (i := 18) (v := ?_) rfl (by kernel_rfl) (by kernel_rfl) (by kernel_rfl) (fun _ _ _ h => h) (Or.inl ⟨by rfl, ?_⟩) (by assumption) ?_
    rotate_left
    · intro w hSw; (try dsimp only at hSw); go_simp; (try with_reducible rfl)
    (try simp only [Act.put, List.getElem_toArray, List.getElem_cons_zero, List.getElem_cons_succ, List.setIfInBounds_toArray, List.set_cons_zero, List.set_cons_succ])
    refine wpAnyH_take (i := 19) (v := ?_) rfl (by kernel_rfl) (by kernel_rfl) (by kernel_rfl) (fun _ _ _ h => h) (Or.inl ⟨by rfl, ?_⟩) (by assumption) ?_
    rotate_left
    · intro w hSw; (try dsimp only at hSw); go_simp; (try with_reducible rfl)
    (try simp only [Act.put, List.getElem_toArray, List.getElem_cons_zero, List.getElem_cons_succ, List.setIfInBounds_toArray, List.set_cons_zero, List.set_cons_succ])
    clear hHeld
    refine wpAnyH_ready (rs := [20]) (by kernel_rfl) (by simp) ?_
    refine AllReadyH.cons rfl (fun K hK => ?_) AllReadyH.nil
    have g0_17 := R1_16.cell 0
    have g1_17 := R1_16.cell 1
    have g2_17 := R1_16.cell 2
    have z0_17 := R1_16.frozen 0
    have z1_17 := R1_16.frozen 1
    have z2_17 := R1_16.frozen 2
    have hzr_17 := R1_16.lt
    have F_O1_17 := fin3 (p := w.heap.size) (a := .int .i64 W) (b := .int .i64 H) (c := .slice A1 xs.length c1) O1_16 (row_ne' O1_16.1 R1_16 (by decide)) HH_16 (by omega)
    have F_O2_17 := fin3 (p := w.heap.size) (a := .int .i64 W) (b := .int .i64 H) (c := .slice A1 xs.length c1) O2_16 (row_ne' O2_16.1 R1_16 (by decide)) HH_16 (by omega)
    have R1_17 := R1_16.put3' (.int .i64 W) (.int .i64 H) (.slice A1 xs.length c1)
    have R2_17 := R2_16.far3' (p := w.heap.size) (a := .int .i64 W) (b := .int .i64 H) (c := .slice A1 xs.length c1) (by omega)
    have Bx_17 := Bx_16.far3' (p := w.heap.size) (a := .int .i64 W) (b := .int .i64 H) (c := .slice A1 xs.length c1) (by omega)
    have Bp_17 := Bp_16.far3' (p := w.heap.size) (a := .int .i64 W) (b := .int .i64 H) (c := .slice A1 xs.length c1) (by omega)
    go_simp
    obtain ⟨ws17, hws⟩ : ∃ v, ((wq16.setCell ⟨w.heap.size, 0, none⟩ (.int .i64 W)).setCell ⟨w.heap.size, 1, none⟩ (.int .i64 H)).setCell ⟨w.heap.size, 2, none⟩ (.slice A1 xs.length c1) = v := ⟨_, rfl⟩
    rw [hws] at R1_17 R2_17 Bx_17 Bp_17 F_O1_17 F_O2_17 ⊢
    clear hws g0_17 z0_17 g1_17 z1_17 g2_17 z2_17
    have O1_17 := F_O1_17.1
    have O2_17 := F_O2_17.1
    have HH_17 := F_O1_17.2
    refine hK.out _ _ (by exact ⟨Bx_17.cell 0, Bx_17.cell 1, Bx_17.cell 2, Bp_17.cell 0, Bp_17.cell 1, Bp_17.cell 2⟩) (fun hHeld => ?_)
    clear hK K
    (try simp only [Act.put, List.getElem_toArray, List.getElem_cons_zero, List.getElem_cons_succ, List.setIfInBounds_toArray, List.set_cons_zero, List.set_cons_succ])
    clear hHeld
    refine wpAnyH_ready (rs := [21]) (by kernel_rfl) (by simp) ?_
    refine AllReadyH.cons rfl (fun K hK => ?_) AllReadyH.nil
    have g0_18 := R2_17.cell 0
    have g1_18 := R2_17.cell 1
    have g2_18 := R2_17.cell 2
    have z0_18 := R2_17.frozen 0
    have z1_18 := R2_17.frozen 1
    have z2_18 := R2_17.frozen 2
    have hzr_18 := R2_17.lt
    have F_O1_18 := fin3 (p := (w.heap.size + 1)) (a := .int .i64 pW) (b := .int .i64 pH) (c := .slice A2 ys.length c2) O1_17 (row_ne' O1_17.1 R2_17 (by decide)) HH_17 (by omega)
    have F_O2_18 := fin3 (p := (w.heap.size + 1)) (a := .int .i64 pW) (b := .int .i64 pH) (c := .slice A2 ys.length c2) O2_17 (row_ne' O2_17.1 R2_17 (by decide)) HH_17 (by omega)
    have R1_18 := R1_17.far3' (p := (w.heap.size + 1)) (a := .int .i64 pW) (b := .int .i64 pH) (c := .slice A2 ys.length c2) (by omega)
    have R2_18 := R2_17.put3' (.int .i64 pW) (.int .i64 pH) (.slice A2 ys.length c2)
    have Bx_18 := Bx_17.far3' (p := (w.heap.size + 1)) (a := .int .i64 pW) (b := .int .i64 pH) (c := .slice A2 ys.length c2) (by omega)
    have Bp_18 := Bp_17.far3' (p := (w.heap.size + 1)) (a := .int .i64 pW) (b := .int .i64 pH) (c := .slice A2 ys.length c2) (by omega)
    go_simp
    obtain ⟨ws18, hws⟩ : ∃ v, ((ws17.setCell ⟨(w.heap.size + 1), 0, none⟩ (.int .i64 pW)).setCell ⟨(w.heap.size + 1), 1, none⟩ (.int .i64 pH)).setCell ⟨(w.heap.size + 1), 2, none⟩ (.slice A2 ys.length c2) = v := ⟨_, rfl⟩
    rw [hws] at R1_18 R2_18 Bx_18 Bp_18 F_O1_18 F_O2_18 ⊢
    clear hws g0_18 z0_18 g1_18 z1_18 g2_18 z2_18
    have O1_18 := F_O1_18.1
    have O2_18 := F_O2_18.1
    have HH_18 := F_O1_18.2
    refine hK.out _ _ (by exact ⟨Bx_18.cell 0, Bx_18.cell 1, Bx_18.cell 2, Bp_18.cell 0, Bp_18.cell 1, Bp_18.cell 2⟩) (fun hHeld => ?_)
    clear hK K
    (try simp only [Act.put, List.getElem_toArray, List.getElem_cons_zero, List.getElem_cons_succ, List.setIfInBounds_toArray, List.set_cons_zero, List.set_cons_succ])
    refine wpAnyH_take (i := 22) (v := ?_) rfl (by kernel_rfl) (by kernel_rfl) (by kernel_rfl) (fun _ _ _ h => h) (Or.inl ⟨by rfl, ?_⟩) (by assumption) ?_
    rotate_left
    · intro w hSw; (try dsimp only at hSw); go_simp; (try with_reducible rfl)
    (try simp only [Act.put, List.getElem_toArray, List.getElem_cons_zero, List.getElem_cons_succ, List.setIfInBounds_toArray, List.set_cons_zero, List.set_cons_succ])
    refine wpAnyH_take (i := 23) (v := ?_) rfl (by kernel_rfl) (by kernel_rfl) (by kernel_rfl) (fun _ _ _ h => h) (Or.inl ⟨by rfl, ?_⟩) (by assumption) ?_
    rotate_left
    · intro w hSw; (try dsimp only at hSw); go_simp; (try with_reducible rfl)
    (try simp only [Act.put, List.getElem_toArray, List.getElem_cons_zero, List.getElem_cons_succ, List.setIfInBounds_toArray, List.set_cons_zero, List.set_cons_succ])
    refine wpAnyH_done (by kernel_rfl) ?_ _
    refine NoPanic.normal ?_
    have g0 := R1_18.cell 0
    have g1 := R1_18.cell 1
    have g2 := R1_18.cell 2
    have k0 := R2_18.cell 0
    have k1 := R2_18.cell 1
    have k2 := R2_18.cell 2
    go_wp2
    exact bodyPost_ret (v := .tuple #[chartV W H (.slice A1 xs.length c1), chartV pW pH (.slice A2 ys.length c2), .int .i64 (IntKind.i64.wrap (x12 - IntKind.i64.wrap (x13.tdiv 8))), .int .i64 (IntKind.i64.wrap (x15 - IntKind.i64.wrap (x16.tdiv 8)))]) (by simp [results, Try.results11, go_sem, g0, g1, g2, k0, k1, k2]) rfl ⟨W, H, A1, c1, xs, pW, pH, A2, c2, ys, _, _, rfl, hsm, hsm2, wrap_i64 _, wrap_i64 _, O1_18, O2_18, HH_18⟩
  | true =>
    go_wp2_with fail
    refine (chart_any9 (w.heap.size + 2) (1200 + 2) _ C (by omega)).mono ?_
    rintro e w6 ⟨uW, uH, A3, c3, zs, rfl, hsm3, own3, hc, hg⟩
    have hne3 := fun z' hz' => row_ne own3.1 (show Blk w6 (w.heap.size + 2) 47 _ from hc.choose_spec.choose_spec.choose_spec.choose_spec.choose_spec.choose_spec.1) (by decide) z' hz'
    have O3 := own3.mono HH.size
    replace R1 := R1.mark hg (fun z hz => by cases hz; omega)
    replace R2 := R2.mark hg (fun z hz => by cases hz; omega)
    replace Bx := Bx.mark hg (fun z hz => by cases hz; omega)
    replace Bp := Bp.mark hg (fun z hz => by cases hz; omega)
    replace O1 := O1.mark hg (fun z z' hz hz' => by cases hz; exact fun e => hne1 z' hz' e.symm)
    replace HH := HH.trans (grown_below (B := w.heap.size) hg (by omega) HH.size)
    replace C := hc
    clear hg own3 O2 hne2 hsm2
    have z0 := Bp.cell 0
    have z1 := Bp.cell 1
    have z2 := Bp.cell 2
    have f0 := Bp.frozen 0
    have f1 := Bp.frozen 1
    have f2 := Bp.frozen 2
    have F1 := fin3 (p := Q4) (a := .int .i64 uW) (b := .int .i64 uH) (c := .slice A3 zs.length c3) O1 (row_ne' O1.1 Bp (by decide)) HH (by omega)
    have F3 := fin3 (p := Q4) (a := .int .i64 uW) (b := .int .i64 uH) (c := .slice A3 zs.length c3) O3 (row_ne' O3.1 Bp (by decide)) HH (by omega)
    have Bp' := Bp.put3' (.int .i64 uW) (.int .i64 uH) (.slice A3 zs.length c3)
    have Bx' := Bx.far3' (p := Q4) (a := .int .i64 uW) (b := .int .i64 uH) (c := .slice A3 zs.length c3) (by omega)
    have R1' := R1.far3' (p := Q4) (a := .int .i64 uW) (b := .int .i64 uH) (c := .slice A3 zs.length c3) (by omega)
    have R2' := R2.far3' (p := Q4) (a := .int .i64 uW) (b := .int .i64 uH) (c := .slice A3 zs.length c3) (by omega)
    have C' := ((C.far (a := ⟨Q4, 0, none⟩) (show w.heap.size + 2 < Q4 by omega) (.int .i64 uW)).far (a := ⟨Q4, 1, none⟩) (show w.heap.size + 2 < Q4 by omega) (.int .i64 uH)).far (a := ⟨Q4, 2, none⟩) (show w.heap.size + 2 < Q4 by omega) (.slice A3 zs.length c3)
    go_wp2_with fail
    obtain ⟨w7, hw7⟩ : ∃ v, ((w6.setCell ⟨Q4, 0, none⟩ (.int .i64 uW)).setCell ⟨Q4, 1, none⟩ (.int .i64 uH)).setCell ⟨Q4, 2, none⟩ (.slice A3 zs.length c3) = v := ⟨_, rfl⟩
    rw [hw7] at F1 F3 Bp' Bx' R1' R2' C' ⊢
    obtain ⟨O1', HH'⟩ := F1
    obtain ⟨O3', _⟩ := F3
    clear hw7 C Bx R1 R2 O1 O3 HH Bp z0 z1 z2 f0 f1 f2
    have ex0 := Bx'.cell 0
    have ex1 := Bx'.cell 1
    have ex2 := Bx'.cell 2
    have ep0 := Bp'.cell 0
    have ep1 := Bp'.cell 1
    have ep2 := Bp'.cell 2
    go_wp2
    refine wp_region_noPanic ?_
    refine wp_region_held_drew (S := (fun w' => w'.cell? ⟨w1.heap.size, 0, none⟩ = some (.int .i64 W) ∧ w'.cell? ⟨w1.heap.size, 1, none⟩ = some (.int .i64 H) ∧ w'.cell? ⟨w1.heap.size, 2, none⟩ = some (.slice A1 xs.length c1) ∧ w'.cell? ⟨Q4, 0, none⟩ = some (.int .i64 uW) ∧ w'.cell? ⟨Q4, 1, none⟩ = some (.int .i64 uH) ∧ w'.cell? ⟨Q4, 2, none⟩ = some (.slice A3 zs.length c3))) (by kernel_rfl) (by go_keep) (fun hHeld => ?_)
    have C'_0 := cur_drew C'
    have Bx'_0 : Blk w7.drew _ _ _ := Bx'.all (low_drewN w7 1)
    have Bp'_0 : Blk w7.drew _ _ _ := Bp'.all (low_drewN w7 1)
    have R1'_0 : Blk w7.drew _ _ _ := R1'.all (low_drewN w7 1)
    have R2'_0 : Blk w7.drew _ _ _ := R2'.all (low_drewN w7 1)
    have O1'_0 : Own w7.drew _ _ _ := O1'.all (low_drewN w7 1)
    have O3'_0 : Own w7.drew _ _ _ := O3'.all (low_drewN w7 1)
    have HH'_0 := belowD HH'
    obtain ⟨wd60, hwd⟩ : ∃ v, w7.drew = v := ⟨_, rfl⟩
    rw [hwd] at hHeld C'_0 Bx'_0 Bp'_0 R1'_0 R2'_0 O1'_0 O3'_0 HH'_0 ⊢
    clear hwd
    refine wpAnyH_take (i := 0) (v := ?_) rfl (by kernel_rfl) (by kernel_rfl) (by kernel_rfl) (fun _ _ _ h => h) (Or.inl ⟨by rfl, ?_⟩) (by assumption) ?_
    rotate_left
    · intro w hSw; (try dsimp only at hSw); go_simp; (try with_reducible rfl)
    (try simp only [Act.put, List.getElem_toArray, List.getElem_cons_zero, List.setIfInBounds_toArray, List.set_cons_zero, List.set_cons_succ])
    refine wpAnyH_take (i := 1) (v := ?_) rfl (by kernel_rfl) (by kernel_rfl) (by kernel_rfl) (fun _ _ _ h => h) (Or.inl ⟨by rfl, ?_⟩) (by assumption) ?_
    rotate_left
    · intro w hSw; (try dsimp only at hSw); go_simp; (try with_reducible rfl)
    (try simp only [Act.put, List.getElem_toArray, List.getElem_cons_zero, List.getElem_cons_succ, List.setIfInBounds_toArray, List.set_cons_zero, List.set_cons_succ])
    refine wpAnyH_take (i := 2) (v := ?_) rfl (by kernel_rfl) (by kernel_rfl) (by kernel_rfl) (fun _ _ _ h => h) (Or.inl ⟨by rfl, ?_⟩) (by assumption) ?_
    rotate_left
    · intro w hSw; (try dsimp only at hSw); go_simp; (try with_reducible rfl)
    (try simp only [Act.put, List.getElem_toArray, List.getElem_cons_zero, List.getElem_cons_succ, List.setIfInBounds_toArray, List.set_cons_zero, List.set_cons_succ])
    refine wpAnyH_take (i := 3) (v := ?_) rfl (by kernel_rfl) (by kernel_rfl) (by kernel_rfl) (fun _ _ _ h => h) (Or.inl ⟨by rfl, ?_⟩) (by assumption) ?_
    rotate_left
    · intro w hSw; (try dsimp only at hSw); go_simp; (try with_reducible rfl)
    (try simp only [Act.put, List.getElem_toArray, List.getElem_cons_zero, List.getElem_cons_succ, List.setIfInBounds_toArray, List.set_cons_zero, List.set_cons_succ])
    refine wpAnyH_take (i := 4) (v := ?_) rfl (by kernel_rfl) (by kernel_rfl) (by kernel_rfl) (fun _ _ _ h => h) (Or.inl ⟨by rfl, ?_⟩) (by assumption) ?_
    rotate_left
    · intro w hSw; (try dsimp only at hSw); go_simp; (try with_reducible rfl)
    (try simp only [Act.put, List.getElem_toArray, List.getElem_cons_zero, List.getElem_cons_succ, List.setIfInBounds_toArray, List.set_cons_zero, List.set_cons_succ])
    refine wpAnyH_take (i := 7) (v := ?_) rfl (by kernel_rfl) (by kernel_rfl) (by kernel_rfl) (fun _ _ _ h => h) (Or.inl ⟨by rfl, ?_⟩) (by assumption) ?_
    rotate_left
    · intro w hSw; (try dsimp only at hSw); go_simp; (try with_reducible rfl)
    (try simp only [Act.put, List.getElem_toArray, List.getElem_cons_zero, List.getElem_cons_succ, List.setIfInBounds_toArray, List.set_cons_zero, List.set_cons_succ])
    refine wpAnyH_take (i := 11) (v := ?_) rfl (by kernel_rfl) (by kernel_rfl) (by kernel_rfl) (fun _ _ _ h => h) (Or.inl ⟨by rfl, ?_⟩) (by assumption) ?_
    rotate_left
    · intro w hSw; (try dsimp only at hSw); go_simp; (try with_reducible rfl)
    (try simp only [Act.put, List.getElem_toArray, List.getElem_cons_zero, List.getElem_cons_succ, List.setIfInBounds_toArray, List.set_cons_zero, List.set_cons_succ])
    refine wpAnyH_take (i := 12) (v := ?_) rfl (by kernel_rfl) (by kernel_rfl) (by kernel_rfl) (fun _ _ _ h => h) (Or.inl ⟨by rfl, ?_⟩) (by assumption) ?_
    rotate_left
    · intro w hSw; (try dsimp only at hSw); go_simp; (try with_reducible rfl)
    (try simp only [Act.put, List.getElem_toArray, List.getElem_cons_zero, List.getElem_cons_succ, List.setIfInBounds_toArray, List.set_cons_zero, List.set_cons_succ])
    refine wpAnyH_take (i := 13) (v := ?_) rfl (by kernel_rfl) (by kernel_rfl) (by kernel_rfl) (fun _ _ _ h => h) (Or.inl ⟨by rfl, ?_⟩) (by assumption) ?_
    rotate_left
    · intro w hSw; (try dsimp only at hSw); go_simp; (try with_reducible rfl)
    (try simp only [Act.put, List.getElem_toArray, List.getElem_cons_zero, List.getElem_cons_succ, List.setIfInBounds_toArray, List.set_cons_zero, List.set_cons_succ])
    refine wpAnyH_take (i := 16) (v := ?_) rfl (by kernel_rfl) (by kernel_rfl) (by kernel_rfl) (fun _ _ _ h => h) (Or.inl ⟨by rfl, ?_⟩) (by assumption) ?_
    rotate_left
    · intro w hSw; (try dsimp only at hSw); go_simp; (try with_reducible rfl)
    (try simp only [Act.put, List.getElem_toArray, List.getElem_cons_zero, List.getElem_cons_succ, List.setIfInBounds_toArray, List.set_cons_zero, List.set_cons_succ])
    clear hHeld
    refine wpAnyH_ready (rs := [5]) (by kernel_rfl) (by simp) ?_
    refine AllReadyH.cons rfl (fun K hK => ?_) AllReadyH.nil
    go_simp
    refine (l1Most_v' 1 (H) M1 _ KM1.out).mono ?_
    rintro e wq61 ⟨rfl, rfl⟩
    refine hK.out _ _ (by exact ⟨Bx'_0.cell 0, Bx'_0.cell 1, Bx'_0.cell 2, Bp'_0.cell 0, Bp'_0.cell 1, Bp'_0.cell 2⟩) (fun hHeld => ?_)
    clear hK K
    (try simp only [Act.put, List.getElem_toArray, List.getElem_cons_zero, List.getElem_cons_succ, List.setIfInBounds_toArray, List.set_cons_zero, List.set_cons_succ])
    clear hHeld
    refine wpAnyH_ready (rs := [6]) (by kernel_rfl) (by simp) ?_
    refine AllReadyH.cons rfl (fun K hK => ?_) AllReadyH.nil
    go_simp
    refine (pick_any (w.heap.size + 2) (1200 + 2 + 1000) (M1) _ C'_0 (by omega) (by omega) (by omega)).mono ?_
    rintro e wq62 ⟨x62, rfl, hx62, hc, hg⟩
    have C'_62 := hc
    have Bx'_62 := Bx'_0.mark hg (fun z hz => by cases hz; omega)
    have Bp'_62 := Bp'_0.mark hg (fun z hz => by cases hz; omega)
    have R1'_62 := R1'_0.mark hg (fun z hz => by cases hz; omega)
    have R2'_62 := R2'_0.mark hg (fun z hz => by cases hz; omega)
    have O1'_62 := O1'_0.mark hg (fun z z' hz hz' => by cases hz; exact fun e => hne1 z' hz' e.symm)
    have O3'_62 := O3'_0.mark hg (fun z z' hz hz' => by cases hz; exact fun e => hne3 z' hz' e.symm)
    have HH'_62 := HH'_0.trans (grown_below (B := w.heap.size) hg (by omega) HH'_0.size)
    clear hc hg
    refine hK.out _ _ (by exact ⟨Bx'_62.cell 0, Bx'_62.cell 1, Bx'_62.cell 2, Bp'_62.cell 0, Bp'_62.cell 1, Bp'_62.cell 2⟩) (fun hHeld => ?_)
    clear hK K
    (try simp only [Act.put, List.getElem_toArray, List.getElem_cons_zero, List.getElem_cons_succ, List.setIfInBounds_toArray, List.set_cons_zero, List.set_cons_succ])
    clear hHeld
    refine wpAnyH_ready (rs := [8]) (by kernel_rfl) (by simp) ?_
    refine AllReadyH.cons rfl (fun K hK => ?_) AllReadyH.nil
    go_simp
    refine (pick_any (w.heap.size + 2) ((1200 + 2 + 1000) + 2) (9) _ C'_62 (by omega) (by omega) (by omega)).mono ?_
    rintro e wq63 ⟨x63, rfl, hx63, hc, hg⟩
    have C'_63 := hc
    have Bx'_63 := Bx'_62.mark hg (fun z hz => by cases hz; omega)
    have Bp'_63 := Bp'_62.mark hg (fun z hz => by cases hz; omega)
    have R1'_63 := R1'_62.mark hg (fun z hz => by cases hz; omega)
    have R2'_63 := R2'_62.mark hg (fun z hz => by cases hz; omega)
    have O1'_63 := O1'_62.mark hg (fun z z' hz hz' => by cases hz; exact fun e => hne1 z' hz' e.symm)
    have O3'_63 := O3'_62.mark hg (fun z z' hz hz' => by cases hz; exact fun e => hne3 z' hz' e.symm)
    have HH'_63 := HH'_62.trans (grown_below (B := w.heap.size) hg (by omega) HH'_62.size)
    clear hc hg
    refine hK.out _ _ (by exact ⟨Bx'_63.cell 0, Bx'_63.cell 1, Bx'_63.cell 2, Bp'_63.cell 0, Bp'_63.cell 1, Bp'_63.cell 2⟩) (fun hHeld => ?_)
    clear hK K
    (try simp only [Act.put, List.getElem_toArray, List.getElem_cons_zero, List.getElem_cons_succ, List.setIfInBounds_toArray, List.set_cons_zero, List.set_cons_succ])
    refine wpAnyH_take (i := 9) (v := ?_) rfl (by kernel_rfl) (by kernel_rfl) (by kernel_rfl) (fun _ _ _ h => h) (Or.inl ⟨by rfl, ?_⟩) (by assumption) ?_
    rotate_left
    · intro w hSw; (try dsimp only at hSw); go_simp; (try with_reducible rfl)
    (try simp only [Act.put, List.getElem_toArray, List.getElem_cons_zero, List.getElem_cons_succ, List.setIfInBounds_toArray, List.set_cons_zero, List.set_cons_succ])
    refine wpAnyH_take (i := 10) (v := ?_) rfl (by kernel_rfl) (by kernel_rfl) (by kernel_rfl) (fun _ _ _ h => h) (Or.inl ⟨by rfl, ?_⟩) (by assumption) ?_
    rotate_left
    · intro w hSw; (try dsimp only at hSw); go_simp; (try with_reducible rfl)
    (try simp only [Act.put, List.getElem_toArray, List.getElem_cons_zero, List.getElem_cons_succ, List.setIfInBounds_toArray, List.set_cons_zero, List.set_cons_succ])
    clear hHeld
    refine wpAnyH_ready (rs := [14]) (by kernel_rfl) (by simp) ?_
    refine AllReadyH.cons rfl (fun K hK => ?_) AllReadyH.nil
    go_simp
    refine (l1Most_v' 1 (W) M2 _ KM2.out).mono ?_
    rintro e wq64 ⟨rfl, rfl⟩
    refine hK.out _ _ (by exact ⟨Bx'_63.cell 0, Bx'_63.cell 1, Bx'_63.cell 2, Bp'_63.cell 0, Bp'_63.cell 1, Bp'_63.cell 2⟩) (fun hHeld => ?_)
    clear hK K
    (try simp only [Act.put, List.getElem_toArray, List.getElem_cons_zero, List.getElem_cons_succ, List.setIfInBounds_toArray, List.set_cons_zero, List.set_cons_succ])
    clear hHeld
    refine wpAnyH_ready (rs := [15]) (by kernel_rfl) (by simp) ?_
    refine AllReadyH.cons rfl (fun K hK => ?_) AllReadyH.nil
    go_simp
    refine (pick_any (w.heap.size + 2) (((1200 + 2 + 1000) + 2) + 2) (M2) _ C'_63 (by omega) (by omega) (by omega)).mono ?_
    rintro e wq65 ⟨x65, rfl, hx65, hc, hg⟩
    have C'_65 := hc
    have Bx'_65 := Bx'_63.mark hg (fun z hz => by cases hz; omega)
    have Bp'_65 := Bp'_63.mark hg (fun z hz => by cases hz; omega)
    have R1'_65 := R1'_63.mark hg (fun z hz => by cases hz; omega)
    have R2'_65 := R2'_63.mark hg (fun z hz => by cases hz; omega)
    have O1'_65 := O1'_63.mark hg (fun z z' hz hz' => by cases hz; exact fun e => hne1 z' hz' e.symm)
    have O3'_65 := O3'_63.mark hg (fun z z' hz hz' => by cases hz; exact fun e => hne3 z' hz' e.symm)
    have HH'_65 := HH'_63.trans (grown_below (B := w.heap.size) hg (by omega) HH'_63.size)
    clear hc hg
    refine hK.out _ _ (by exact ⟨Bx'_65.cell 0, Bx'_65.cell 1, Bx'_65.cell 2, Bp'_65.cell 0, Bp'_65.cell 1, Bp'_65.cell 2⟩) (fun hHeld => ?_)
    clear hK K
    (try simp only [Act.put, List.getElem_toArray, List.getElem_cons_zero, List.getElem_cons_succ, List.setIfInBounds_toArray, List.set_cons_zero, List.set_cons_succ])
    clear hHeld
    refine wpAnyH_ready (rs := [17]) (by kernel_rfl) (by simp) ?_
    refine AllReadyH.cons rfl (fun K hK => ?_) AllReadyH.nil
    go_simp
    refine (pick_any (w.heap.size + 2) ((((1200 + 2 + 1000) + 2) + 2) + 2) (9) _ C'_65 (by omega) (by omega) (by omega)).mono ?_
    rintro e wq66 ⟨x66, rfl, hx66, hc, hg⟩
    have C'_66 := hc
    have Bx'_66 := Bx'_65.mark hg (fun z hz => by cases hz; omega)
    have Bp'_66 := Bp'_65.mark hg (fun z hz => by cases hz; omega)
    have R1'_66 := R1'_65.mark hg (fun z hz => by cases hz; omega)
    have R2'_66 := R2'_65.mark hg (fun z hz => by cases hz; omega)
    have O1'_66 := O1'_65.mark hg (fun z z' hz hz' => by cases hz; exact fun e => hne1 z' hz' e.symm)
    have O3'_66 := O3'_65.mark hg (fun z z' hz hz' => by cases hz; exact fun e => hne3 z' hz' e.symm)
    have HH'_66 := HH'_65.trans (grown_below (B := w.heap.size) hg (by omega) HH'_65.size)
    clear hc hg
    refine hK.out _ _ (by exact ⟨Bx'_66.cell 0, Bx'_66.cell 1, Bx'_66.cell 2, Bp'_66.cell 0, Bp'_66.cell 1, Bp'_66.cell 2⟩) (fun hHeld => ?_)
    clear hK K
    (try simp only [Act.put, List.getElem_toArray, List.getElem_cons_zero, List.getElem_cons_succ, List.setIfInBounds_toArray, List.set_cons_zero, List.set_cons_succ])
    refine wpAnyH_take (i := 18) (v := ?_) rfl (by kernel_rfl) (by kernel_rfl) (by kernel_rfl) (fun _ _ _ h => h) (Or.inl ⟨by rfl, ?_⟩) (by assumption) ?_
    rotate_left
    · intro w hSw; (try dsimp only at hSw); go_simp; (try with_reducible rfl)
    (try simp only [Act.put, List.getElem_toArray, List.getElem_cons_zero, List.getElem_cons_succ, List.setIfInBounds_toArray, List.set_cons_zero, List.set_cons_succ])
    refine wpAnyH_take (i := 19) (v := ?_) rfl (by kernel_rfl) (by kernel_rfl) (by kernel_rfl) (fun _ _ _ h => h) (Or.inl ⟨by rfl, ?_⟩) (by assumption) ?_
    rotate_left
    · intro w hSw; (try dsimp only at hSw); go_simp; (try with_reducible rfl)
    (try simp only [Act.put, List.getElem_toArray, List.getElem_cons_zero, List.getElem_cons_succ, List.setIfInBounds_toArray, List.set_cons_zero, List.set_cons_succ])
    clear hHeld
    refine wpAnyH_ready (rs := [20]) (by kernel_rfl) (by simp) ?_
    refine AllReadyH.cons rfl (fun K hK => ?_) AllReadyH.nil
    have g0_67 := R1'_66.cell 0
    have g1_67 := R1'_66.cell 1
    have g2_67 := R1'_66.cell 2
    have z0_67 := R1'_66.frozen 0
    have z1_67 := R1'_66.frozen 1
    have z2_67 := R1'_66.frozen 2
    have hzr_67 := R1'_66.lt
    have F_O1p_67 := fin3 (p := w.heap.size) (a := .int .i64 W) (b := .int .i64 H) (c := .slice A1 xs.length c1) O1'_66 (row_ne' O1'_66.1 R1'_66 (by decide)) HH'_66 (by omega)
    have F_O3p_67 := fin3 (p := w.heap.size) (a := .int .i64 W) (b := .int .i64 H) (c := .slice A1 xs.length c1) O3'_66 (row_ne' O3'_66.1 R1'_66 (by decide)) HH'_66 (by omega)
    have R1'_67 := R1'_66.put3' (.int .i64 W) (.int .i64 H) (.slice A1 xs.length c1)
    have R2'_67 := R2'_66.far3' (p := w.heap.size) (a := .int .i64 W) (b := .int .i64 H) (c := .slice A1 xs.length c1) (by omega)
    have Bx'_67 := Bx'_66.far3' (p := w.heap.size) (a := .int .i64 W) (b := .int .i64 H) (c := .slice A1 xs.length c1) (by omega)
    have Bp'_67 := Bp'_66.far3' (p := w.heap.size) (a := .int .i64 W) (b := .int .i64 H) (c := .slice A1 xs.length c1) (by omega)
    go_simp
    obtain ⟨ws67, hws⟩ : ∃ v, ((wq66.setCell ⟨w.heap.size, 0, none⟩ (.int .i64 W)).setCell ⟨w.heap.size, 1, none⟩ (.int .i64 H)).setCell ⟨w.heap.size, 2, none⟩ (.slice A1 xs.length c1) = v := ⟨_, rfl⟩
    rw [hws] at R1'_67 R2'_67 Bx'_67 Bp'_67 F_O1p_67 F_O3p_67 ⊢
    clear hws g0_67 z0_67 g1_67 z1_67 g2_67 z2_67
    have O1'_67 := F_O1p_67.1
    have O3'_67 := F_O3p_67.1
    have HH'_67 := F_O1p_67.2
    refine hK.out _ _ (by exact ⟨Bx'_67.cell 0, Bx'_67.cell 1, Bx'_67.cell 2, Bp'_67.cell 0, Bp'_67.cell 1, Bp'_67.cell 2⟩) (fun hHeld => ?_)
    clear hK K
    (try simp only [Act.put, List.getElem_toArray, List.getElem_cons_zero, List.getElem_cons_succ, List.setIfInBounds_toArray, List.set_cons_zero, List.set_cons_succ])
    clear hHeld
    refine wpAnyH_ready (rs := [21]) (by kernel_rfl) (by simp) ?_
    refine AllReadyH.cons rfl (fun K hK => ?_) AllReadyH.nil
    have g0_68 := R2'_67.cell 0
    have g1_68 := R2'_67.cell 1
    have g2_68 := R2'_67.cell 2
    have z0_68 := R2'_67.frozen 0
    have z1_68 := R2'_67.frozen 1
    have z2_68 := R2'_67.frozen 2
    have hzr_68 := R2'_67.lt
    have F_O1p_68 := fin3 (p := (w.heap.size + 1)) (a := .int .i64 uW) (b := .int .i64 uH) (c := .slice A3 zs.length c3) O1'_67 (row_ne' O1'_67.1 R2'_67 (by decide)) HH'_67 (by omega)
    have F_O3p_68 := fin3 (p := (w.heap.size + 1)) (a := .int .i64 uW) (b := .int .i64 uH) (c := .slice A3 zs.length c3) O3'_67 (row_ne' O3'_67.1 R2'_67 (by decide)) HH'_67 (by omega)
    have R1'_68 := R1'_67.far3' (p := (w.heap.size + 1)) (a := .int .i64 uW) (b := .int .i64 uH) (c := .slice A3 zs.length c3) (by omega)
    have R2'_68 := R2'_67.put3' (.int .i64 uW) (.int .i64 uH) (.slice A3 zs.length c3)
    have Bx'_68 := Bx'_67.far3' (p := (w.heap.size + 1)) (a := .int .i64 uW) (b := .int .i64 uH) (c := .slice A3 zs.length c3) (by omega)
    have Bp'_68 := Bp'_67.far3' (p := (w.heap.size + 1)) (a := .int .i64 uW) (b := .int .i64 uH) (c := .slice A3 zs.length c3) (by omega)
    go_simp
    obtain ⟨ws68, hws⟩ : ∃ v, ((ws67.setCell ⟨(w.heap.size + 1), 0, none⟩ (.int .i64 uW)).setCell ⟨(w.heap.size + 1), 1, none⟩ (.int .i64 uH)).setCell ⟨(w.heap.size + 1), 2, none⟩ (.slice A3 zs.length c3) = v := ⟨_, rfl⟩
    rw [hws] at R1'_68 R2'_68 Bx'_68 Bp'_68 F_O1p_68 F_O3p_68 ⊢
    clear hws g0_68 z0_68 g1_68 z1_68 g2_68 z2_68
    have O1'_68 := F_O1p_68.1
    have O3'_68 := F_O3p_68.1
    have HH'_68 := F_O1p_68.2
    refine hK.out _ _ (by exact ⟨Bx'_68.cell 0, Bx'_68.cell 1, Bx'_68.cell 2, Bp'_68.cell 0, Bp'_68.cell 1, Bp'_68.cell 2⟩) (fun hHeld => ?_)
    clear hK K
    (try simp only [Act.put, List.getElem_toArray, List.getElem_cons_zero, List.getElem_cons_succ, List.setIfInBounds_toArray, List.set_cons_zero, List.set_cons_succ])
    refine wpAnyH_take (i := 22) (v := ?_) rfl (by kernel_rfl) (by kernel_rfl) (by kernel_rfl) (fun _ _ _ h => h) (Or.inl ⟨by rfl, ?_⟩) (by assumption) ?_
    rotate_left
    · intro w hSw; (try dsimp only at hSw); go_simp; (try with_reducible rfl)
    (try simp only [Act.put, List.getElem_toArray, List.getElem_cons_zero, List.getElem_cons_succ, List.setIfInBounds_toArray, List.set_cons_zero, List.set_cons_succ])
    refine wpAnyH_take (i := 23) (v := ?_) rfl (by kernel_rfl) (by kernel_rfl) (by kernel_rfl) (fun _ _ _ h => h) (Or.inl ⟨by rfl, ?_⟩) (by assumption) ?_
    rotate_left
    · intro w hSw; (try dsimp only at hSw); go_simp; (try with_reducible rfl)
    (try simp only [Act.put, List.getElem_toArray, List.getElem_cons_zero, List.getElem_cons_succ, List.setIfInBounds_toArray, List.set_cons_zero, List.set_cons_succ])
    refine wpAnyH_done (by kernel_rfl) ?_ _
    refine NoPanic.normal ?_
    have g0 := R1'_68.cell 0
    have g1 := R1'_68.cell 1
    have g2 := R1'_68.cell 2
    have k0 := R2'_68.cell 0
    have k1 := R2'_68.cell 1
    have k2 := R2'_68.cell 2
    go_wp2
    exact bodyPost_ret (v := .tuple #[chartV W H (.slice A1 xs.length c1), chartV uW uH (.slice A3 zs.length c3), .int .i64 (IntKind.i64.wrap (x62 - IntKind.i64.wrap (x63.tdiv 8))), .int .i64 (IntKind.i64.wrap (x65 - IntKind.i64.wrap (x66.tdiv 8)))]) (by simp [results, Try.results11, go_sem, g0, g1, g2, k0, k1, k2]) rfl ⟨W, H, A1, c1, xs, uW, uH, A3, c3, zs, _, _, rfl, hsm, hsm3, wrap_i64 _, wrap_i64 _, O1'_68, O3'_68, HH'_68⟩
end Go.Proofs.Ytbhdgpkfighjfaa
