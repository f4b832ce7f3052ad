/- The draw of a part in a chart. Condition: a code of at most 65536 bytes. -/
import Derived.Test.YtbhdgpkfighjfaaDraws2P
namespace Go.Proofs.Ytbhdgpkfighjfaa
open Go.RowKit

theorem tdiv16 (x : Int) (h0 : 0 ≤ x) (h1 : x ≤ 17) : 0 ≤ x.tdiv 16 ∧ x.tdiv 16 ≤ 1 := by
  rw [Int.tdiv_eq_ediv_of_nonneg h0]
  omega
def GavePartOf (w : World) (e : Ending) (w' : World) : Prop := ∃ (W H : Int) (A : Option Addr) (c : Nat) (xs : List Int) (r q h k : Int), e = .returned (.tuple #[chartV W H (.slice A xs.length c), .int .i64 r, .int .i64 q, .int .i64 h, .int .i64 k]) ∧ Small9 W H xs ∧ I64 r ∧ I64 q ∧ I64 h ∧ I64 k ∧ Own w' w.heap.size (.slice A xs.length c) xs ∧ Below w.heap.size w w'
theorem mostI_one (x : Int) : 1 ≤ mostI 1 x ∧ (mostI 1 x = 1 ∨ mostI 1 x = x) := by
  unfold mostI
  split <;> omega
theorem l1Most_v (a b v : Int) (w : World) (h : mostI a b = v) : Calls Try.prog 21 #[.int .i64 a, .int .i64 b] w fun e w' => e = .returned (.int .i64 v) ∧ w = w' := by
  refine (l1Most_any a b w).mono ?_
  rintro e w' ⟨rfl, hw⟩
  exact ⟨by rw [h], hw⟩
set_option maxRecDepth 100000 in
set_option maxHeartbeats 16000000 in
theorem drawPartOf_any (A : Option Addr) (n c B : Nat) (w : World) (h : RdB w B A n c) (hB : B ≤ w.heap.size) (hn : n ≤ 65536) : Calls Try.prog 5 #[.slice A n c] w (GavePartOf w) := by
  have hb0 := (Below.refl w.heap.size w).alloc (Nat.le_refl _) (.cells #[.int .i64 0, .int .i64 0, .slice none 0 0] 26)
  have r0 := (Blk.new w #[.int .i64 0, .int .i64 0, .slice none 0 0] 26).alloc (.cells #[.slice A n c, .int .i64 0, .int .u64 0] 47)
  have hc0 : Cur ((w.alloc (.cells #[.int .i64 0, .int .i64 0, .slice none 0 0] 26)).alloc (.cells #[.slice A n c, .int .i64 0, .int .u64 0] 47)) (w.heap.size + 1) 0 := by
    have := cur_new (h.alloc hB (.cells #[.int .i64 0, .int .i64 0, .slice none 0 0] 26)) (by simp; omega) hn
    simpa using this
  have hb1 := hb0.alloc (by simp) (.cells #[.slice A n c, .int .i64 0, .int .u64 0] 47)
  clear h hb0
  go_enter Try.func5, Try.ntmps5
  go_wp2_with fail
  refine (chart_any9 (w.heap.size + 1) 0 _ hc0 (by omega)).mono ?_
  rintro e w1 ⟨W, H, A1, c1, xs, rfl, hsm, own, hc1, hg1⟩
  have r1 := r0.mark hg1 (fun z hz => by cases hz; omega)
  have HB1 := hb1.trans (grown_below (B := w.heap.size) hg1 (by omega) (by simp; omega))
  have hne1 := fun z' hz' => row_ne own.1 (show Blk w1 (w.heap.size + 1) 47 _ from hc1.choose_spec.choose_spec.choose_spec.choose_spec.choose_spec.choose_spec.1) (by decide) z' hz'
  replace own := own.mono (show w.heap.size ≤ _ by simp; omega)
  have hp1 := hc1.lt
  clear hc0 hg1 r0 hb1
  have Bx := Blk.new w1 #[.int .i64 W, .int .i64 H, .slice A1 xs.length c1] 26
  have hal := (Below.refl w1.heap.size w1).alloc (Nat.le_refl _) (.cells #[.int .i64 W, .int .i64 H, .slice A1 xs.length c1] 26)
  have C := hc1.all hal
  have Br := r1.all hal
  have O := own.all hal
  have HH := HB1.alloc HB1.size (.cells #[.int .i64 W, .int .i64 H, .slice A1 xs.length c1] 26)
  have hsides := hsm.2
  unfold Side9 at hsides
  obtain ⟨⟨hW0, hW9⟩, hH0, hH9⟩ := hsides
  have hwH : IntKind.i64.wrap (H + 1) = H + 1 := IntWalk.i64_in _ (by omega)
  have hwW : IntKind.i64.wrap (W + 1) = W + 1 := IntWalk.i64_in _ (by omega)
  have ex0 := Bx.cell 0
  have ex1 := Bx.cell 1
  have ex2 := Bx.cell 2
  clear hc1 r1 own HB1 hal
  go_wp2
  obtain ⟨wX, hwX⟩ : ∃ wX, w1.alloc (.cells #[.int .i64 W, .int .i64 H, .slice A1 xs.length c1] 26) = wX := ⟨_, rfl⟩
  rw [hwX] at Bx C Br O HH ex0 ex1 ex2 ⊢
  clear hwX
  refine wp_region_noPanic ?_
  refine wp_region_held_drew (S := (fun w' => w'.cell? ⟨w1.heap.size, 0, none⟩ = some (.int .i64 W) ∧ w'.cell? ⟨w1.heap.size, 1, none⟩ = some (.int .i64 H) ∧ w'.cell? ⟨w1.heap.size, 2, none⟩ = some (.slice A1 xs.length c1))) (by kernel_rfl) (by go_keep) (fun hHeld => ?_)
  have C_0 := cur_drew C
  have Bx_0 : Blk wX.drew _ _ _ := Bx.all (low_drewN wX 1)
  have Br_0 : Blk wX.drew _ _ _ := Br.all (low_drewN wX 1)
  have O_0 : Own wX.drew _ _ _ := O.all (low_drewN wX 1)
  have HH_0 := belowD HH
  obtain ⟨wd0, hwd⟩ : ∃ v, wX.drew = v := ⟨_, rfl⟩
  rw [hwd] at hHeld C_0 Bx_0 Br_0 O_0 HH_0 ⊢
  clear hwd
  refine wpAnyH_take (i := 0) (v := ?_) rfl (by kernel_rfl) (by kernel_rfl) (by kernel_rfl) (fun _ _ _ h => h) (Or.inl ⟨by rfl, ?_⟩) (by assumption) ?_
  rotate_left
  · intro w hSw; (try dsimp only at hSw); go_simp; (try with_reducible rfl)
  (try simp only [Act.put, List.getElem_toArray, List.getElem_cons_zero, List.setIfInBounds_toArray, List.set_cons_zero, List.set_cons_succ])
  refine wpAnyH_take (i := 1) (v := ?_) rfl (by kernel_rfl) (by kernel_rfl) (by kernel_rfl) (fun _ _ _ h => h) (Or.inl ⟨by rfl, ?_⟩) (by assumption) ?_
  rotate_left
  · intro w hSw; (try dsimp only at hSw); go_simp; (try with_reducible rfl)
  (try simp only [Act.put, List.getElem_toArray, List.getElem_cons_zero, List.getElem_cons_succ, List.setIfInBounds_toArray, List.set_cons_zero, List.set_cons_succ])
  refine wpAnyH_take (i := 2) (v := ?_) rfl (by kernel_rfl) (by kernel_rfl) (by kernel_rfl) (fun _ _ _ h => h) (Or.inl ⟨by rfl, ?_⟩) (by assumption) ?_
  rotate_left
  · intro w hSw; (try dsimp only at hSw); go_simp; (try with_reducible rfl)
  (try simp only [Act.put, List.getElem_toArray, List.getElem_cons_zero, List.getElem_cons_succ, List.setIfInBounds_toArray, List.set_cons_zero, List.set_cons_succ])
  refine wpAnyH_take (i := 3) (v := ?_) rfl (by kernel_rfl) (by kernel_rfl) (by kernel_rfl) (fun _ _ _ h => h) (Or.inl ⟨by rfl, ?_⟩) (by assumption) ?_
  rotate_left
  · intro w hSw; (try dsimp only at hSw); go_simp; (try with_reducible rfl)
  (try simp only [Act.put, List.getElem_toArray, List.getElem_cons_zero, List.getElem_cons_succ, List.setIfInBounds_toArray, List.set_cons_zero, List.set_cons_succ])
  refine wpAnyH_take (i := 5) (v := ?_) rfl (by kernel_rfl) (by kernel_rfl) (by kernel_rfl) (fun _ _ _ h => h) (Or.inl ⟨by rfl, ?_⟩) (by assumption) ?_
  rotate_left
  · intro w hSw; (try dsimp only at hSw); go_simp; (try with_reducible rfl)
  (try simp only [Act.put, List.getElem_toArray, List.getElem_cons_zero, List.getElem_cons_succ, List.setIfInBounds_toArray, List.set_cons_zero, List.set_cons_succ])
  refine wpAnyH_take (i := 9) (v := ?_) rfl (by kernel_rfl) (by kernel_rfl) (by kernel_rfl) (fun _ _ _ h => h) (Or.inl ⟨by rfl, ?_⟩) (by assumption) ?_
  rotate_left
  · intro w hSw; (try dsimp only at hSw); go_simp; (try with_reducible rfl)
  (try simp only [Act.put, List.getElem_toArray, List.getElem_cons_zero, List.getElem_cons_succ, List.setIfInBounds_toArray, List.set_cons_zero, List.set_cons_succ])
  refine wpAnyH_take (i := 10) (v := ?_) rfl (by kernel_rfl) (by kernel_rfl) (by kernel_rfl) (fun _ _ _ h => h) (Or.inl ⟨by rfl, ?_⟩) (by assumption) ?_
  rotate_left
  · intro w hSw; (try dsimp only at hSw); go_simp; (try with_reducible rfl)
  (try simp only [Act.put, List.getElem_toArray, List.getElem_cons_zero, List.getElem_cons_succ, List.setIfInBounds_toArray, List.set_cons_zero, List.set_cons_succ])
  refine wpAnyH_take (i := 11) (v := ?_) rfl (by kernel_rfl) (by kernel_rfl) (by kernel_rfl) (fun _ _ _ h => h) (Or.inl ⟨by rfl, ?_⟩) (by assumption) ?_
  rotate_left
  · intro w hSw; (try dsimp only at hSw); go_simp; (try with_reducible rfl)
  (try simp only [Act.put, List.getElem_toArray, List.getElem_cons_zero, List.getElem_cons_succ, List.setIfInBounds_toArray, List.set_cons_zero, List.set_cons_succ])
  refine wpAnyH_take (i := 12) (v := ?_) rfl (by kernel_rfl) (by kernel_rfl) (by kernel_rfl) (fun _ _ _ h => h) (Or.inl ⟨by rfl, ?_⟩) (by assumption) ?_
  rotate_left
  · intro w hSw; (try dsimp only at hSw); go_simp; (try with_reducible rfl)
  (try simp only [Act.put, List.getElem_toArray, List.getElem_cons_zero, List.getElem_cons_succ, List.setIfInBounds_toArray, List.set_cons_zero, List.set_cons_succ])
  refine wpAnyH_take (i := 14) (v := ?_) rfl (by kernel_rfl) (by kernel_rfl) (by kernel_rfl) (fun _ _ _ h => h) (Or.inl ⟨by rfl, ?_⟩) (by assumption) ?_
  rotate_left
  · intro w hSw; (try dsimp only at hSw); go_simp; (try with_reducible rfl)
  (try simp only [Act.put, List.getElem_toArray, List.getElem_cons_zero, List.getElem_cons_succ, List.setIfInBounds_toArray, List.set_cons_zero, List.set_cons_succ])
  clear hHeld
  refine wpAnyH_ready (rs := [4]) (by kernel_rfl) (by simp) ?_
  refine AllReadyH.cons rfl (fun K hK => ?_) AllReadyH.nil
  go_simp
  refine (pick_any (w.heap.size + 1) (0 + 1000) (H + 1) _ C_0 (by omega) (by omega) (by omega)).mono ?_
  rintro e wq1 ⟨x1, rfl, hx1, hc, hg⟩
  have C_1 := hc
  have Bx_1 := Bx_0.mark hg (fun z hz => by cases hz; omega)
  have Br_1 := Br_0.mark hg (fun z hz => by cases hz; omega)
  have O_1 := O_0.mark hg (fun z z' hz hz' => by cases hz; exact fun e => hne1 z' hz' e.symm)
  have HH_1 := HH_0.trans (grown_below (B := w.heap.size) hg (by omega) HH_0.size)
  clear hc hg
  refine hK.out _ _ (by exact ⟨Bx_1.cell 0, Bx_1.cell 1, Bx_1.cell 2⟩) (fun hHeld => ?_)
  clear hK K
  (try simp only [Act.put, List.getElem_toArray, List.getElem_cons_zero, List.getElem_cons_succ, List.setIfInBounds_toArray, List.set_cons_zero, List.set_cons_succ])
  clear hHeld
  refine wpAnyH_ready (rs := [6]) (by kernel_rfl) (by simp) ?_
  refine AllReadyH.cons rfl (fun K hK => ?_) AllReadyH.nil
  go_simp
  refine (pick_any (w.heap.size + 1) ((0 + 1000) + 2) (17) _ C_1 (by omega) (by omega) (by omega)).mono ?_
  rintro e wq2 ⟨x2, rfl, hx2, hc, hg⟩
  have C_2 := hc
  have Bx_2 := Bx_1.mark hg (fun z hz => by cases hz; omega)
  have Br_2 := Br_1.mark hg (fun z hz => by cases hz; omega)
  have O_2 := O_1.mark hg (fun z z' hz hz' => by cases hz; exact fun e => hne1 z' hz' e.symm)
  have HH_2 := HH_1.trans (grown_below (B := w.heap.size) hg (by omega) HH_1.size)
  clear hc hg
  refine hK.out _ _ (by exact ⟨Bx_2.cell 0, Bx_2.cell 1, Bx_2.cell 2⟩) (fun hHeld => ?_)
  clear hK K
  (try simp only [Act.put, List.getElem_toArray, List.getElem_cons_zero, List.getElem_cons_succ, List.setIfInBounds_toArray, List.set_cons_zero, List.set_cons_succ])
  refine wpAnyH_take (i := 7) (v := ?_) rfl (by kernel_rfl) (by kernel_rfl) (by kernel_rfl) (fun _ _ _ h => h) (Or.inl ⟨by rfl, ?_⟩) (by assumption) ?_
  rotate_left
  · intro w hSw; (try dsimp only at hSw); go_simp; (try with_reducible rfl)
  (try simp only [Act.put, List.getElem_toArray, List.getElem_cons_zero, List.getElem_cons_succ, List.setIfInBounds_toArray, List.set_cons_zero, List.set_cons_succ])
  refine wpAnyH_take (i := 8) (v := ?_) rfl (by kernel_rfl) (by kernel_rfl) (by kernel_rfl) (fun _ _ _ h => h) (Or.inl ⟨by rfl, ?_⟩) (by assumption) ?_
  rotate_left
  · intro w hSw; (try dsimp only at hSw); go_simp; (try with_reducible rfl)
  (try simp only [Act.put, List.getElem_toArray, List.getElem_cons_zero, List.getElem_cons_succ, List.setIfInBounds_toArray, List.set_cons_zero, List.set_cons_succ])
  clear hHeld
  refine wpAnyH_ready (rs := [13]) (by kernel_rfl) (by simp) ?_
  refine AllReadyH.cons rfl (fun K hK => ?_) AllReadyH.nil
  go_simp
  refine (pick_any (w.heap.size + 1) (((0 + 1000) + 2) + 2) (W + 1) _ C_2 (by omega) (by omega) (by omega)).mono ?_
  rintro e wq3 ⟨x3, rfl, hx3, hc, hg⟩
  have C_3 := hc
  have Bx_3 := Bx_2.mark hg (fun z hz => by cases hz; omega)
  have Br_3 := Br_2.mark hg (fun z hz => by cases hz; omega)
  have O_3 := O_2.mark hg (fun z z' hz hz' => by cases hz; exact fun e => hne1 z' hz' e.symm)
  have HH_3 := HH_2.trans (grown_below (B := w.heap.size) hg (by omega) HH_2.size)
  clear hc hg
  refine hK.out _ _ (by exact ⟨Bx_3.cell 0, Bx_3.cell 1, Bx_3.cell 2⟩) (fun hHeld => ?_)
  clear hK K
  (try simp only [Act.put, List.getElem_toArray, List.getElem_cons_zero, List.getElem_cons_succ, List.setIfInBounds_toArray, List.set_cons_zero, List.set_cons_succ])
  clear hHeld
  refine wpAnyH_ready (rs := [15]) (by kernel_rfl) (by simp) ?_
  refine AllReadyH.cons rfl (fun K hK => ?_) AllReadyH.nil
  go_simp
  refine (pick_any (w.heap.size + 1) ((((0 + 1000) + 2) + 2) + 2) (17) _ C_3 (by omega) (by omega) (by omega)).mono ?_
  rintro e wq4 ⟨x4, rfl, hx4, hc, hg⟩
  have C_4 := hc
  have Bx_4 := Bx_3.mark hg (fun z hz => by cases hz; omega)
  have Br_4 := Br_3.mark hg (fun z hz => by cases hz; omega)
  have O_4 := O_3.mark hg (fun z z' hz hz' => by cases hz; exact fun e => hne1 z' hz' e.symm)
  have HH_4 := HH_3.trans (grown_below (B := w.heap.size) hg (by omega) HH_3.size)
  clear hc hg
  refine hK.out _ _ (by exact ⟨Bx_4.cell 0, Bx_4.cell 1, Bx_4.cell 2⟩) (fun hHeld => ?_)
  clear hK K
  (try simp only [Act.put, List.getElem_toArray, List.getElem_cons_zero, List.getElem_cons_succ, List.setIfInBounds_toArray, List.set_cons_zero, List.set_cons_succ])
  refine wpAnyH_take (i := 16) (v := ?_) rfl (by kernel_rfl) (by kernel_rfl) (by kernel_rfl) (fun _ _ _ h => h) (Or.inl ⟨by rfl, ?_⟩) (by assumption) ?_
  rotate_left
  · intro w hSw; (try dsimp only at hSw); go_simp; (try with_reducible rfl)
  (try simp only [Act.put, List.getElem_toArray, List.getElem_cons_zero, List.getElem_cons_succ, List.setIfInBounds_toArray, List.set_cons_zero, List.set_cons_succ])
  refine wpAnyH_take (i := 17) (v := ?_) rfl (by kernel_rfl) (by kernel_rfl) (by kernel_rfl) (fun _ _ _ h => h) (Or.inl ⟨by rfl, ?_⟩) (by assumption) ?_
  rotate_left
  · intro w hSw; (try dsimp only at hSw); go_simp; (try with_reducible rfl)
  (try simp only [Act.put, List.getElem_toArray, List.getElem_cons_zero, List.getElem_cons_succ, List.setIfInBounds_toArray, List.set_cons_zero, List.set_cons_succ])
  refine wpAnyH_take (i := 18) (v := ?_) rfl (by kernel_rfl) (by kernel_rfl) (by kernel_rfl) (fun _ _ _ h => h) (Or.inl ⟨by rfl, ?_⟩) (by assumption) ?_
  rotate_left
  · intro w hSw; (try dsimp only at hSw); go_simp; (try with_reducible rfl)
  (try simp only [Act.put, List.getElem_toArray, List.getElem_cons_zero, List.getElem_cons_succ, List.setIfInBounds_toArray, List.set_cons_zero, List.set_cons_succ])
  refine wpAnyH_take (i := 19) (v := ?_) rfl (by kernel_rfl) (by kernel_rfl) (by kernel_rfl) (fun _ _ _ h => h) (Or.inl ⟨by rfl, ?_⟩) (by assumption) ?_
  rotate_left
  · intro w hSw; (try dsimp only at hSw); go_simp; (try with_reducible rfl)
  (try simp only [Act.put, List.getElem_toArray, List.getElem_cons_zero, List.getElem_cons_succ, List.setIfInBounds_toArray, List.set_cons_zero, List.set_cons_succ])
  refine wpAnyH_done (by kernel_rfl) ?_ _
  refine NoPanic.normal ?_
  obtain ⟨row, hrow⟩ : ∃ row, IntKind.i64.wrap (x1 - IntKind.i64.wrap (x2.tdiv 16)) = row := ⟨_, rfl⟩
  have hrb : -10 ≤ row ∧ row ≤ 20 := by
    have h1 := tdiv16 x2 (by omega) (by omega)
    rw [IntWalk.i64_in (x2.tdiv 16) (by omega), IntWalk.i64_in _ (by omega)] at hrow
    omega
  obtain ⟨col, hcol⟩ : ∃ col, IntKind.i64.wrap (x3 - IntKind.i64.wrap (x4.tdiv 16)) = col := ⟨_, rfl⟩
  have hcb : -10 ≤ col ∧ col ≤ 20 := by
    have h1 := tdiv16 x4 (by omega) (by omega)
    rw [IntWalk.i64_in (x4.tdiv 16) (by omega), IntWalk.i64_in _ (by omega)] at hcol
    omega
  rw [hrow, hcol]
  clear hrow hcol hwH hwW ex0 ex1 ex2
  have hwr : IntKind.i64.wrap (H - row) = H - row := IntWalk.i64_in _ (by omega)
  have hwc : IntKind.i64.wrap (W - col) = W - col := IntWalk.i64_in _ (by omega)
  obtain ⟨M1, hM1⟩ : ∃ M1, mostI 1 (H - row) = M1 := ⟨_, rfl⟩
  obtain ⟨M2, hM2⟩ : ∃ M2, mostI 1 (W - col) = M2 := ⟨_, rfl⟩
  have hb1 := mostI_one (H - row)
  have hb2 := mostI_one (W - col)
  rw [hM1] at hb1
  rw [hM2] at hb2
  have KM1 := Lib.hid hM1
  have KM2 := Lib.hid hM2
  clear hM1 hM2
  have ex0 := Bx_4.cell 0
  have ex1 := Bx_4.cell 1
  have ex2 := Bx_4.cell 2
  go_wp2
  clear C Bx Br O HH
  have C := C_4
  have Bx := Bx_4
  have Br := Br_4
  have O := O_4
  have HH := HH_4
  refine' (fun (keyP9 : Bool → (_ : Prop)) => ?main) ?keyP9
  case main =>
    refine' (fun (keyP8 : Bool → (_ : Prop)) => ?main) ?keyP8
    case main =>
      refine' (fun (keyP7 : Bool → (_ : Prop)) => ?main) ?keyP7
      case main =>
        refine' (fun (keyP6 : Bool → (_ : Prop)) => ?main) ?keyP6
        case main =>
          refine' (fun (keyP5 : Bool → (_ : Prop)) => ?main) ?keyP5
          case main =>
            refine' (fun (keyP4 : Bool → (_ : Prop)) => ?main) ?keyP4
            case main =>
              refine' (fun (keyP3 : Bool → (_ : Prop)) => ?main) ?keyP3
              case main =>
                refine' (fun (keyP2 : Bool → (_ : Prop)) => ?main) ?keyP2
                case main =>
                  refine' (fun (keyP1 : Bool → (_ : Prop)) => ?main) ?keyP1
                  case main =>
                    refine' (fun (keyP0 : Bool → (_ : Prop)) => ?main) ?keyP0
                    case main =>
                      refine wp_region_noPanic ?_
                      refine wp_region_held_drew (S := (fun w' => w'.cell? ⟨w1.heap.size, 0, none⟩ = some (.int .i64 W) ∧ w'.cell? ⟨w1.heap.size, 1, none⟩ = some (.int .i64 H) ∧ w'.cell? ⟨w1.heap.size, 2, none⟩ = some (.slice A1 xs.length c1))) (by kernel_rfl) (by go_keep) (fun hHeld => ?_)
                      have Cz := cur_drew C
                      have Bxz : Blk wq4.drew _ _ _ := Bx.all (low_drewN wq4 1)
                      have Brz : Blk wq4.drew _ _ _ := Br.all (low_drewN wq4 1)
                      have Oz : Own wq4.drew _ _ _ := O.all (low_drewN wq4 1)
                      have HHz := belowD HH
                      obtain ⟨wdP, hwd⟩ : ∃ v, wq4.drew = v := ⟨_, rfl⟩
                      rw [hwd] at hHeld Cz Bxz Brz Oz HHz ⊢
                      clear hwd
                      refine wpAnyH_take (i := 0) (v := ?_) rfl (by kernel_rfl) (by kernel_rfl) (by kernel_rfl) (fun _ _ _ h => h) (Or.inl ⟨by rfl, ?_⟩) (by assumption) ?_
                      rotate_left
                      · intro w hSw; (try dsimp only at hSw); go_simp; (try with_reducible rfl)
                      (try simp only [Act.put, List.getElem_toArray, List.getElem_cons_zero, List.setIfInBounds_toArray, List.set_cons_zero, List.set_cons_succ])
                      refine wpAnyH_take (i := 1) (v := ?_) rfl (by kernel_rfl) (by kernel_rfl) (by kernel_rfl) (fun _ _ _ h => h) (Or.inl ⟨by rfl, ?_⟩) (by assumption) ?_
                      rotate_left
                      · intro w hSw; (try dsimp only at hSw); go_simp; (try with_reducible rfl)
                      (try simp only [Act.put, List.getElem_toArray, List.getElem_cons_zero, List.getElem_cons_succ, List.setIfInBounds_toArray, List.set_cons_zero, List.set_cons_succ])
                      refine wpAnyH_take (i := 2) (v := ?_) rfl (by kernel_rfl) (by kernel_rfl) (by kernel_rfl) (fun _ _ _ h => h) (Or.inl ⟨by rfl, ?_⟩) (by assumption) ?_
                      rotate_left
                      · intro w hSw; (try dsimp only at hSw); go_simp; (try with_reducible rfl)
                      (try simp only [Act.put, List.getElem_toArray, List.getElem_cons_zero, List.getElem_cons_succ, List.setIfInBounds_toArray, List.set_cons_zero, List.set_cons_succ])
                      refine wpAnyH_take (i := 3) (v := ?_) rfl (by kernel_rfl) (by kernel_rfl) (by kernel_rfl) (fun _ _ _ h => h) (Or.inl ⟨by rfl, ?_⟩) (by assumption) ?_
                      rotate_left
                      · intro w hSw; (try dsimp only at hSw); go_simp; (try with_reducible rfl)
                      (try simp only [Act.put, List.getElem_toArray, List.getElem_cons_zero, List.getElem_cons_succ, List.setIfInBounds_toArray, List.set_cons_zero, List.set_cons_succ])
                      refine wpAnyH_take (i := 4) (v := ?_) rfl (by kernel_rfl) (by kernel_rfl) (by kernel_rfl) (fun _ _ _ h => h) (Or.inl ⟨by rfl, ?_⟩) (by assumption) ?_
                      rotate_left
                      · intro w hSw; (try dsimp only at hSw); go_simp; (try with_reducible rfl)
                      (try simp only [Act.put, List.getElem_toArray, List.getElem_cons_zero, List.getElem_cons_succ, List.setIfInBounds_toArray, List.set_cons_zero, List.set_cons_succ])
                      refine wpAnyH_take (i := 5) (v := ?_) rfl (by kernel_rfl) (by kernel_rfl) (by kernel_rfl) (fun _ _ _ h => h) (Or.inl ⟨by rfl, ?_⟩) (by assumption) ?_
                      rotate_left
                      · intro w hSw; (try dsimp only at hSw); go_simp; (try with_reducible rfl)
                      (try simp only [Act.put, List.getElem_toArray, List.getElem_cons_zero, List.getElem_cons_succ, List.setIfInBounds_toArray, List.set_cons_zero, List.set_cons_succ])
                      refine wpAnyH_take (i := 6) (v := ?_) rfl (by kernel_rfl) (by kernel_rfl) (by kernel_rfl) (fun _ _ _ h => h) (Or.inl ⟨by rfl, ?_⟩) (by assumption) ?_
                      rotate_left
                      · intro w hSw; (try dsimp only at hSw); go_simp; (try with_reducible rfl)
                      (try simp only [Act.put, List.getElem_toArray, List.getElem_cons_zero, List.getElem_cons_succ, List.setIfInBounds_toArray, List.set_cons_zero, List.set_cons_succ])
                      refine wpAnyH_take (i := 7) (v := ?_) rfl (by kernel_rfl) (by kernel_rfl) (by kernel_rfl) (fun _ _ _ h => h) (Or.inl ⟨by rfl, ?_⟩) (by assumption) ?_
                      rotate_left
                      · intro w hSw; (try dsimp only at hSw); go_simp; (try with_reducible rfl)
                      (try simp only [Act.put, List.getElem_toArray, List.getElem_cons_zero, List.getElem_cons_succ, List.setIfInBounds_toArray, List.set_cons_zero, List.set_cons_succ])
                      refine wpAnyH_take (i := 10) (v := ?_) rfl (by kernel_rfl) (by kernel_rfl) (by kernel_rfl) (fun _ _ _ h => h) (Or.inl ⟨by rfl, ?_⟩) (by assumption) ?_
                      rotate_left
                      · intro w hSw; (try dsimp only at hSw); go_simp; (try with_reducible rfl)
                      (try simp only [Act.put, List.getElem_toArray, List.getElem_cons_zero, List.getElem_cons_succ, List.setIfInBounds_toArray, List.set_cons_zero, List.set_cons_succ])
                      refine wpAnyH_take (i := 14) (v := ?_) rfl (by kernel_rfl) (by kernel_rfl) (by kernel_rfl) (fun _ _ _ h => h) (Or.inl ⟨by rfl, ?_⟩) (by assumption) ?_
                      rotate_left
                      · intro w hSw; (try dsimp only at hSw); go_simp; (try with_reducible rfl)
                      (try simp only [Act.put, List.getElem_toArray, List.getElem_cons_zero, List.getElem_cons_succ, List.setIfInBounds_toArray, List.set_cons_zero, List.set_cons_succ])
                      refine wpAnyH_take (i := 15) (v := ?_) rfl (by kernel_rfl) (by kernel_rfl) (by kernel_rfl) (fun _ _ _ h => h) (Or.inl ⟨by rfl, ?_⟩) (by assumption) ?_
                      rotate_left
                      · intro w hSw; (try dsimp only at hSw); go_simp; (try with_reducible rfl)
                      (try simp only [Act.put, List.getElem_toArray, List.getElem_cons_zero, List.getElem_cons_succ, List.setIfInBounds_toArray, List.set_cons_zero, List.set_cons_succ])
                      refine wpAnyH_take (i := 16) (v := ?_) rfl (by kernel_rfl) (by kernel_rfl) (by kernel_rfl) (fun _ _ _ h => h) (Or.inl ⟨by rfl, ?_⟩) (by assumption) ?_
                      rotate_left
                      · intro w hSw; (try dsimp only at hSw); go_simp; (try with_reducible rfl)
                      (try simp only [Act.put, List.getElem_toArray, List.getElem_cons_zero, List.getElem_cons_succ, List.setIfInBounds_toArray, List.set_cons_zero, List.set_cons_succ])
                      refine wpAnyH_take (i := 17) (v := ?_) rfl (by kernel_rfl) (by kernel_rfl) (by kernel_rfl) (fun _ _ _ h => h) (Or.inl ⟨by rfl, ?_⟩) (by assumption) ?_
                      rotate_left
                      · intro w hSw; (try dsimp only at hSw); go_simp; (try with_reducible rfl)
                      (try simp only [Act.put, List.getElem_toArray, List.getElem_cons_zero, List.getElem_cons_succ, List.setIfInBounds_toArray, List.set_cons_zero, List.set_cons_succ])
                      refine wpAnyH_take (i := 18) (v := ?_) rfl (by kernel_rfl) (by kernel_rfl) (by kernel_rfl) (fun _ _ _ h => h) (Or.inl ⟨by rfl, ?_⟩) (by assumption) ?_
                      rotate_left
                      · intro w hSw; (try dsimp only at hSw); go_simp; (try with_reducible rfl)
                      (try simp only [Act.put, List.getElem_toArray, List.getElem_cons_zero, List.getElem_cons_succ, List.setIfInBounds_toArray, List.set_cons_zero, List.set_cons_succ])
                      refine wpAnyH_take (i := 21) (v := ?_) rfl (by kernel_rfl) (by kernel_rfl) (by kernel_rfl) (fun _ _ _ h => h) (Or.inl ⟨by rfl, ?_⟩) (by assumption) ?_
                      rotate_left
                      · intro w hSw; (try dsimp only at hSw); go_simp; (try with_reducible rfl)
                      (try simp only [Act.put, List.getElem_toArray, List.getElem_cons_zero, List.getElem_cons_succ, List.setIfInBounds_toArray, List.set_cons_zero, List.set_cons_succ])
                      clear hHeld
                      refine wpAnyH_ready (rs := [8, 11, 22]) (by kernel_rfl) (by simp) ?_
                      refine AllReadyH.cons rfl (fun K hK => ?_) ?_
                      · skip
                        go_simp
                        refine (l1Most_v 1 (H - row) M1 _ KM1.out).mono ?_
                        rintro e wq101 ⟨rfl, rfl⟩
                        refine hK.out _ _ (by exact ⟨Bxz.cell 0, Bxz.cell 1, Bxz.cell 2⟩) (fun hHeld => ?_)
                        clear hK K
                        (try simp only [Act.put, List.getElem_toArray, List.getElem_cons_zero, List.getElem_cons_succ, List.setIfInBounds_toArray, List.set_cons_zero, List.set_cons_succ])
                        clear hHeld
                        refine wpAnyH_ready (rs := [9, 11, 22]) (by kernel_rfl) (by simp) ?_
                        refine AllReadyH.cons rfl (fun K hK => ?_) ?_
                        · skip
                          go_simp
                          refine (pick_any (w.heap.size + 1) (((((0 + 1000) + 2) + 2) + 2) + 2) (M1) _ Cz (by omega) (by omega) (by omega)).mono ?_
                          rintro e wq102 ⟨x9, rfl, hx9, hc, hg⟩
                          clear Cz
                          have Cz := hc
                          replace Bxz := Bxz.mark hg (fun z hz => by cases hz; omega)
                          replace Brz := Brz.mark hg (fun z hz => by cases hz; omega)
                          replace Oz := Oz.mark hg (fun z z' hz hz' => by cases hz; exact fun e => hne1 z' hz' e.symm)
                          replace HHz := HHz.trans (grown_below (B := w.heap.size) hg (by omega) HHz.size)
                          clear hc hg
                          refine hK.out _ _ (by exact ⟨Bxz.cell 0, Bxz.cell 1, Bxz.cell 2⟩) (fun hHeld => ?_)
                          clear hK K
                          (try simp only [Act.put, List.getElem_toArray, List.getElem_cons_zero, List.getElem_cons_succ, List.setIfInBounds_toArray, List.set_cons_zero, List.set_cons_succ])
                          clear hHeld
                          refine wpAnyH_ready (rs := [11, 22]) (by kernel_rfl) (by simp) ?_
                          refine AllReadyH.cons rfl (fun K hK => ?_) ?_
                          · skip
                            go_simp
                            have hal := (Below.refl wq102.heap.size wq102).alloc (Nat.le_refl _) (.cells #[.int .i64 1, .int .i64 1, .int .i64 1, .int .i64 2, .int .i64 0] 3)
                            have hcl := Cz.lt
                            replace Cz := Cz.all hal
                            replace Bxz := Bxz.all hal
                            replace Brz := Brz.all hal
                            replace Oz := Oz.all hal
                            replace HHz := HHz.alloc HHz.size (.cells #[.int .i64 1, .int .i64 1, .int .i64 1, .int .i64 2, .int .i64 0] 3)
                            have Lit11 : Blk _ (wq102.heap.size) _ _ := Blk.new wq102 #[.int .i64 1, .int .i64 1, .int .i64 1, .int .i64 2, .int .i64 0] 3
                            obtain ⟨q11, hq⟩ : ∃ q, wq102.heap.size = q := ⟨_, rfl⟩
                            rw [hq] at Lit11 ⊢
                            have hqp11 : q11 ≠ (w.heap.size + 1) := by omega
                            clear hcl
                            obtain ⟨wq103, hw⟩ : ∃ v, wq102.alloc (.cells #[.int .i64 1, .int .i64 1, .int .i64 1, .int .i64 2, .int .i64 0] 3) = v := ⟨_, rfl⟩
                            rw [hw] at Cz Bxz Brz Oz HHz Lit11 ⊢
                            clear hal hw hq
                            refine hK.out _ _ (by exact ⟨Bxz.cell 0, Bxz.cell 1, Bxz.cell 2⟩) (fun hHeld => ?_)
                            clear hK K
                            (try simp only [Act.put, List.getElem_toArray, List.getElem_cons_zero, List.getElem_cons_succ, List.setIfInBounds_toArray, List.set_cons_zero, List.set_cons_succ])
                            revert hHeld; revert hx9; revert hqp11; revert Lit11; revert HHz; revert Oz; revert Brz; revert Bxz; revert Cz; revert x9; revert q11; revert wq103
                            exact keyP3 true
                          refine AllReadyH.cons rfl (fun K hK => ?_) AllReadyH.nil
                          go_simp
                          have hal := (Below.refl wq102.heap.size wq102).alloc (Nat.le_refl _) (.cells #[.int .i64 1, .int .i64 1, .int .i64 1, .int .i64 2, .int .i64 0] 3)
                          have hcl := Cz.lt
                          replace Cz := Cz.all hal
                          replace Bxz := Bxz.all hal
                          replace Brz := Brz.all hal
                          replace Oz := Oz.all hal
                          replace HHz := HHz.alloc HHz.size (.cells #[.int .i64 1, .int .i64 1, .int .i64 1, .int .i64 2, .int .i64 0] 3)
                          have Lit22 : Blk _ (wq102.heap.size) _ _ := Blk.new wq102 #[.int .i64 1, .int .i64 1, .int .i64 1, .int .i64 2, .int .i64 0] 3
                          obtain ⟨q22, hq⟩ : ∃ q, wq102.heap.size = q := ⟨_, rfl⟩
                          rw [hq] at Lit22 ⊢
                          have hqp22 : q22 ≠ (w.heap.size + 1) := by omega
                          clear hcl
                          obtain ⟨wq104, hw⟩ : ∃ v, wq102.alloc (.cells #[.int .i64 1, .int .i64 1, .int .i64 1, .int .i64 2, .int .i64 0] 3) = v := ⟨_, rfl⟩
                          rw [hw] at Cz Bxz Brz Oz HHz Lit22 ⊢
                          clear hal hw hq
                          refine hK.out _ _ (by exact ⟨Bxz.cell 0, Bxz.cell 1, Bxz.cell 2⟩) (fun hHeld => ?_)
                          clear hK K
                          (try simp only [Act.put, List.getElem_toArray, List.getElem_cons_zero, List.getElem_cons_succ, List.setIfInBounds_toArray, List.set_cons_zero, List.set_cons_succ])
                          revert hHeld; revert hx9; revert hqp22; revert Lit22; revert HHz; revert Oz; revert Brz; revert Bxz; revert Cz; revert x9; revert q22; revert wq104
                          exact keyP5 true
                        refine AllReadyH.cons rfl (fun K hK => ?_) ?_
                        · skip
                          go_simp
                          have hal := (Below.refl wdP.heap.size wdP).alloc (Nat.le_refl _) (.cells #[.int .i64 1, .int .i64 1, .int .i64 1, .int .i64 2, .int .i64 0] 3)
                          have hcl := Cz.lt
                          replace Cz := Cz.all hal
                          replace Bxz := Bxz.all hal
                          replace Brz := Brz.all hal
                          replace Oz := Oz.all hal
                          replace HHz := HHz.alloc HHz.size (.cells #[.int .i64 1, .int .i64 1, .int .i64 1, .int .i64 2, .int .i64 0] 3)
                          have Lit11 : Blk _ (wdP.heap.size) _ _ := Blk.new wdP #[.int .i64 1, .int .i64 1, .int .i64 1, .int .i64 2, .int .i64 0] 3
                          obtain ⟨q11, hq⟩ : ∃ q, wdP.heap.size = q := ⟨_, rfl⟩
                          rw [hq] at Lit11 ⊢
                          have hqp11 : q11 ≠ (w.heap.size + 1) := by omega
                          clear hcl
                          obtain ⟨wq105, hw⟩ : ∃ v, wdP.alloc (.cells #[.int .i64 1, .int .i64 1, .int .i64 1, .int .i64 2, .int .i64 0] 3) = v := ⟨_, rfl⟩
                          rw [hw] at Cz Bxz Brz Oz HHz Lit11 ⊢
                          clear hal hw hq
                          refine hK.out _ _ (by exact ⟨Bxz.cell 0, Bxz.cell 1, Bxz.cell 2⟩) (fun hHeld => ?_)
                          clear hK K
                          (try simp only [Act.put, List.getElem_toArray, List.getElem_cons_zero, List.getElem_cons_succ, List.setIfInBounds_toArray, List.set_cons_zero, List.set_cons_succ])
                          revert hHeld; revert hqp11; revert Lit11; revert HHz; revert Oz; revert Brz; revert Bxz; revert Cz; revert q11; revert wq105
                          exact keyP1 true
                        refine AllReadyH.cons rfl (fun K hK => ?_) AllReadyH.nil
                        go_simp
                        have hal := (Below.refl wdP.heap.size wdP).alloc (Nat.le_refl _) (.cells #[.int .i64 1, .int .i64 1, .int .i64 1, .int .i64 2, .int .i64 0] 3)
                        have hcl := Cz.lt
                        replace Cz := Cz.all hal
                        replace Bxz := Bxz.all hal
                        replace Brz := Brz.all hal
                        replace Oz := Oz.all hal
                        replace HHz := HHz.alloc HHz.size (.cells #[.int .i64 1, .int .i64 1, .int .i64 1, .int .i64 2, .int .i64 0] 3)
                        have Lit22 : Blk _ (wdP.heap.size) _ _ := Blk.new wdP #[.int .i64 1, .int .i64 1, .int .i64 1, .int .i64 2, .int .i64 0] 3
                        obtain ⟨q22, hq⟩ : ∃ q, wdP.heap.size = q := ⟨_, rfl⟩
                        rw [hq] at Lit22 ⊢
                        have hqp22 : q22 ≠ (w.heap.size + 1) := by omega
                        clear hcl
                        obtain ⟨wq106, hw⟩ : ∃ v, wdP.alloc (.cells #[.int .i64 1, .int .i64 1, .int .i64 1, .int .i64 2, .int .i64 0] 3) = v := ⟨_, rfl⟩
                        rw [hw] at Cz Bxz Brz Oz HHz Lit22 ⊢
                        clear hal hw hq
                        refine hK.out _ _ (by exact ⟨Bxz.cell 0, Bxz.cell 1, Bxz.cell 2⟩) (fun hHeld => ?_)
                        clear hK K
                        (try simp only [Act.put, List.getElem_toArray, List.getElem_cons_zero, List.getElem_cons_succ, List.setIfInBounds_toArray, List.set_cons_zero, List.set_cons_succ])
                        revert hHeld; revert hqp22; revert Lit22; revert HHz; revert Oz; revert Brz; revert Bxz; revert Cz; revert q22; revert wq106
                        exact keyP2 true
                      refine AllReadyH.cons rfl (fun K hK => ?_) ?_
                      · skip
                        go_simp
                        have hal := (Below.refl wdP.heap.size wdP).alloc (Nat.le_refl _) (.cells #[.int .i64 1, .int .i64 1, .int .i64 1, .int .i64 2, .int .i64 0] 3)
                        have hcl := Cz.lt
                        replace Cz := Cz.all hal
                        replace Bxz := Bxz.all hal
                        replace Brz := Brz.all hal
                        replace Oz := Oz.all hal
                        replace HHz := HHz.alloc HHz.size (.cells #[.int .i64 1, .int .i64 1, .int .i64 1, .int .i64 2, .int .i64 0] 3)
                        have Lit11 : Blk _ (wdP.heap.size) _ _ := Blk.new wdP #[.int .i64 1, .int .i64 1, .int .i64 1, .int .i64 2, .int .i64 0] 3
                        obtain ⟨q11, hq⟩ : ∃ q, wdP.heap.size = q := ⟨_, rfl⟩
                        rw [hq] at Lit11 ⊢
                        have hqp11 : q11 ≠ (w.heap.size + 1) := by omega
                        clear hcl
                        obtain ⟨wq107, hw⟩ : ∃ v, wdP.alloc (.cells #[.int .i64 1, .int .i64 1, .int .i64 1, .int .i64 2, .int .i64 0] 3) = v := ⟨_, rfl⟩
                        rw [hw] at Cz Bxz Brz Oz HHz Lit11 ⊢
                        clear hal hw hq
                        refine hK.out _ _ (by exact ⟨Bxz.cell 0, Bxz.cell 1, Bxz.cell 2⟩) (fun hHeld => ?_)
                        clear hK K
                        (try simp only [Act.put, List.getElem_toArray, List.getElem_cons_zero, List.getElem_cons_succ, List.setIfInBounds_toArray, List.set_cons_zero, List.set_cons_succ])
                        clear hHeld
                        refine wpAnyH_ready (rs := [8, 22]) (by kernel_rfl) (by simp) ?_
                        refine AllReadyH.cons rfl (fun K hK => ?_) ?_
                        · skip
                          go_simp
                          refine (l1Most_v 1 (H - row) M1 _ KM1.out).mono ?_
                          rintro e wq108 ⟨rfl, rfl⟩
                          refine hK.out _ _ (by exact ⟨Bxz.cell 0, Bxz.cell 1, Bxz.cell 2⟩) (fun hHeld => ?_)
                          clear hK K
                          (try simp only [Act.put, List.getElem_toArray, List.getElem_cons_zero, List.getElem_cons_succ, List.setIfInBounds_toArray, List.set_cons_zero, List.set_cons_succ])
                          revert hHeld; revert hqp11; revert Lit11; revert HHz; revert Oz; revert Brz; revert Bxz; revert Cz; revert q11; revert wq107
                          exact keyP1 true
                        refine AllReadyH.cons rfl (fun K hK => ?_) AllReadyH.nil
                        go_simp
                        have hal := (Below.refl wq107.heap.size wq107).alloc (Nat.le_refl _) (.cells #[.int .i64 1, .int .i64 1, .int .i64 1, .int .i64 2, .int .i64 0] 3)
                        have hcl := Cz.lt
                        replace Cz := Cz.all hal
                        replace Bxz := Bxz.all hal
                        replace Brz := Brz.all hal
                        replace Oz := Oz.all hal
                        replace HHz := HHz.alloc HHz.size (.cells #[.int .i64 1, .int .i64 1, .int .i64 1, .int .i64 2, .int .i64 0] 3)
                        replace Lit11 := Lit11.all hal
                        have Lit22 : Blk _ (wq107.heap.size) _ _ := Blk.new wq107 #[.int .i64 1, .int .i64 1, .int .i64 1, .int .i64 2, .int .i64 0] 3
                        obtain ⟨q22, hq⟩ : ∃ q, wq107.heap.size = q := ⟨_, rfl⟩
                        rw [hq] at Lit22 ⊢
                        have hqp22 : q22 ≠ (w.heap.size + 1) := by omega
                        clear hcl
                        obtain ⟨wq109, hw⟩ : ∃ v, wq107.alloc (.cells #[.int .i64 1, .int .i64 1, .int .i64 1, .int .i64 2, .int .i64 0] 3) = v := ⟨_, rfl⟩
                        rw [hw] at Cz Bxz Brz Oz HHz Lit11 Lit22 ⊢
                        clear hal hw hq
                        refine hK.out _ _ (by exact ⟨Bxz.cell 0, Bxz.cell 1, Bxz.cell 2⟩) (fun hHeld => ?_)
                        clear hK K
                        (try simp only [Act.put, List.getElem_toArray, List.getElem_cons_zero, List.getElem_cons_succ, List.setIfInBounds_toArray, List.set_cons_zero, List.set_cons_succ])
                        revert hHeld; revert hqp22; revert hqp11; revert Lit22; revert Lit11; revert HHz; revert Oz; revert Brz; revert Bxz; revert Cz; revert q22; revert q11; revert wq109
                        exact keyP0 true
                      refine AllReadyH.cons rfl (fun K hK => ?_) AllReadyH.nil
                      go_simp
                      have hal := (Below.refl wdP.heap.size wdP).alloc (Nat.le_refl _) (.cells #[.int .i64 1, .int .i64 1, .int .i64 1, .int .i64 2, .int .i64 0] 3)
                      have hcl := Cz.lt
                      replace Cz := Cz.all hal
                      replace Bxz := Bxz.all hal
                      replace Brz := Brz.all hal
                      replace Oz := Oz.all hal
                      replace HHz := HHz.alloc HHz.size (.cells #[.int .i64 1, .int .i64 1, .int .i64 1, .int .i64 2, .int .i64 0] 3)
                      have Lit22 : Blk _ (wdP.heap.size) _ _ := Blk.new wdP #[.int .i64 1, .int .i64 1, .int .i64 1, .int .i64 2, .int .i64 0] 3
                      obtain ⟨q22, hq⟩ : ∃ q, wdP.heap.size = q := ⟨_, rfl⟩
                      rw [hq] at Lit22 ⊢
                      have hqp22 : q22 ≠ (w.heap.size + 1) := by omega
                      clear hcl
                      obtain ⟨wq110, hw⟩ : ∃ v, wdP.alloc (.cells #[.int .i64 1, .int .i64 1, .int .i64 1, .int .i64 2, .int .i64 0] 3) = v := ⟨_, rfl⟩
                      rw [hw] at Cz Bxz Brz Oz HHz Lit22 ⊢
                      clear hal hw hq
                      refine hK.out _ _ (by exact ⟨Bxz.cell 0, Bxz.cell 1, Bxz.cell 2⟩) (fun hHeld => ?_)
                      clear hK K
                      (try simp only [Act.put, List.getElem_toArray, List.getElem_cons_zero, List.getElem_cons_succ, List.setIfInBounds_toArray, List.set_cons_zero, List.set_cons_succ])
                      clear hHeld
                      refine wpAnyH_ready (rs := [8, 11]) (by kernel_rfl) (by simp) ?_
                      refine AllReadyH.cons rfl (fun K hK => ?_) ?_
                      · skip
                        go_simp
                        refine (l1Most_v 1 (H - row) M1 _ KM1.out).mono ?_
                        rintro e wq111 ⟨rfl, rfl⟩
                        refine hK.out _ _ (by exact ⟨Bxz.cell 0, Bxz.cell 1, Bxz.cell 2⟩) (fun hHeld => ?_)
                        clear hK K
                        (try simp only [Act.put, List.getElem_toArray, List.getElem_cons_zero, List.getElem_cons_succ, List.setIfInBounds_toArray, List.set_cons_zero, List.set_cons_succ])
                        revert hHeld; revert hqp22; revert Lit22; revert HHz; revert Oz; revert Brz; revert Bxz; revert Cz; revert q22; revert wq110
                        exact keyP2 true
                      refine AllReadyH.cons rfl (fun K hK => ?_) AllReadyH.nil
                      go_simp
                      have hal := (Below.refl wq110.heap.size wq110).alloc (Nat.le_refl _) (.cells #[.int .i64 1, .int .i64 1, .int .i64 1, .int .i64 2, .int .i64 0] 3)
                      have hcl := Cz.lt
                      replace Cz := Cz.all hal
                      replace Bxz := Bxz.all hal
                      replace Brz := Brz.all hal
                      replace Oz := Oz.all hal
                      replace HHz := HHz.alloc HHz.size (.cells #[.int .i64 1, .int .i64 1, .int .i64 1, .int .i64 2, .int .i64 0] 3)
                      replace Lit22 := Lit22.all hal
                      have Lit11 : Blk _ (wq110.heap.size) _ _ := Blk.new wq110 #[.int .i64 1, .int .i64 1, .int .i64 1, .int .i64 2, .int .i64 0] 3
                      obtain ⟨q11, hq⟩ : ∃ q, wq110.heap.size = q := ⟨_, rfl⟩
                      rw [hq] at Lit11 ⊢
                      have hqp11 : q11 ≠ (w.heap.size + 1) := by omega
                      clear hcl
                      obtain ⟨wq112, hw⟩ : ∃ v, wq110.alloc (.cells #[.int .i64 1, .int .i64 1, .int .i64 1, .int .i64 2, .int .i64 0] 3) = v := ⟨_, rfl⟩
                      rw [hw] at Cz Bxz Brz Oz HHz Lit22 Lit11 ⊢
                      clear hal hw hq
                      refine hK.out _ _ (by exact ⟨Bxz.cell 0, Bxz.cell 1, Bxz.cell 2⟩) (fun hHeld => ?_)
                      clear hK K
                      (try simp only [Act.put, List.getElem_toArray, List.getElem_cons_zero, List.getElem_cons_succ, List.setIfInBounds_toArray, List.set_cons_zero, List.set_cons_succ])
                      revert hHeld; revert hqp22; revert hqp11; revert Lit22; revert Lit11; revert HHz; revert Oz; revert Brz; revert Bxz; revert Cz; revert q22; revert q11; revert wq112
                      exact keyP0 true
                    case keyP0 =>
                      intro _ wq109 q11 q22 Cz Bxz Brz Oz HHz Lit11 Lit22 hqp11 hqp22 hHeld
                      clear hHeld
                      refine wpAnyH_ready (rs := [8]) (by kernel_rfl) (by simp) ?_
                      refine AllReadyH.cons rfl (fun K hK => ?_) AllReadyH.nil
                      go_simp
                      refine (l1Most_v 1 (H - row) M1 _ KM1.out).mono ?_
                      rintro e wq113 ⟨rfl, rfl⟩
                      refine hK.out _ _ (by exact ⟨Bxz.cell 0, Bxz.cell 1, Bxz.cell 2⟩) (fun hHeld => ?_)
                      clear hK K
                      (try simp only [Act.put, List.getElem_toArray, List.getElem_cons_zero, List.getElem_cons_succ, List.setIfInBounds_toArray, List.set_cons_zero, List.set_cons_succ])
                      revert hHeld; revert hqp22; revert hqp11; revert Lit22; revert Lit11; revert HHz; revert Oz; revert Brz; revert Bxz; revert Cz; revert q22; revert q11; revert wq109
                      exact keyP4 true
                  case keyP1 =>
                    intro _ wq105 q11 Cz Bxz Brz Oz HHz Lit11 hqp11 hHeld
                    clear hHeld
                    refine wpAnyH_ready (rs := [9, 22]) (by kernel_rfl) (by simp) ?_
                    refine AllReadyH.cons rfl (fun K hK => ?_) ?_
                    · skip
                      go_simp
                      refine (pick_any (w.heap.size + 1) (((((0 + 1000) + 2) + 2) + 2) + 2) (M1) _ Cz (by omega) (by omega) (by omega)).mono ?_
                      rintro e wq114 ⟨x9, rfl, hx9, hc, hg⟩
                      clear Cz
                      have Cz := hc
                      replace Bxz := Bxz.mark hg (fun z hz => by cases hz; omega)
                      replace Brz := Brz.mark hg (fun z hz => by cases hz; omega)
                      replace Oz := Oz.mark hg (fun z z' hz hz' => by cases hz; exact fun e => hne1 z' hz' e.symm)
                      replace HHz := HHz.trans (grown_below (B := w.heap.size) hg (by omega) HHz.size)
                      replace Lit11 := Lit11.mark hg (fun z hz => by cases hz; omega)
                      clear hc hg
                      refine hK.out _ _ (by exact ⟨Bxz.cell 0, Bxz.cell 1, Bxz.cell 2⟩) (fun hHeld => ?_)
                      clear hK K
                      (try simp only [Act.put, List.getElem_toArray, List.getElem_cons_zero, List.getElem_cons_succ, List.setIfInBounds_toArray, List.set_cons_zero, List.set_cons_succ])
                      revert hHeld; revert hx9; revert hqp11; revert Lit11; revert HHz; revert Oz; revert Brz; revert Bxz; revert Cz; revert x9; revert q11; revert wq114
                      exact keyP3 true
                    refine AllReadyH.cons rfl (fun K hK => ?_) AllReadyH.nil
                    go_simp
                    have hal := (Below.refl wq105.heap.size wq105).alloc (Nat.le_refl _) (.cells #[.int .i64 1, .int .i64 1, .int .i64 1, .int .i64 2, .int .i64 0] 3)
                    have hcl := Cz.lt
                    replace Cz := Cz.all hal
                    replace Bxz := Bxz.all hal
                    replace Brz := Brz.all hal
                    replace Oz := Oz.all hal
                    replace HHz := HHz.alloc HHz.size (.cells #[.int .i64 1, .int .i64 1, .int .i64 1, .int .i64 2, .int .i64 0] 3)
                    replace Lit11 := Lit11.all hal
                    have Lit22 : Blk _ (wq105.heap.size) _ _ := Blk.new wq105 #[.int .i64 1, .int .i64 1, .int .i64 1, .int .i64 2, .int .i64 0] 3
                    obtain ⟨q22, hq⟩ : ∃ q, wq105.heap.size = q := ⟨_, rfl⟩
                    rw [hq] at Lit22 ⊢
                    have hqp22 : q22 ≠ (w.heap.size + 1) := by omega
                    clear hcl
                    obtain ⟨wq115, hw⟩ : ∃ v, wq105.alloc (.cells #[.int .i64 1, .int .i64 1, .int .i64 1, .int .i64 2, .int .i64 0] 3) = v := ⟨_, rfl⟩
                    rw [hw] at Cz Bxz Brz Oz HHz Lit11 Lit22 ⊢
                    clear hal hw hq
                    refine hK.out _ _ (by exact ⟨Bxz.cell 0, Bxz.cell 1, Bxz.cell 2⟩) (fun hHeld => ?_)
                    clear hK K
                    (try simp only [Act.put, List.getElem_toArray, List.getElem_cons_zero, List.getElem_cons_succ, List.setIfInBounds_toArray, List.set_cons_zero, List.set_cons_succ])
                    revert hHeld; revert hqp22; revert hqp11; revert Lit22; revert Lit11; revert HHz; revert Oz; revert Brz; revert Bxz; revert Cz; revert q22; revert q11; revert wq115
                    exact keyP4 true
                case keyP2 =>
                  intro _ wq106 q22 Cz Bxz Brz Oz HHz Lit22 hqp22 hHeld
                  clear hHeld
                  refine wpAnyH_ready (rs := [9, 11]) (by kernel_rfl) (by simp) ?_
                  refine AllReadyH.cons rfl (fun K hK => ?_) ?_
                  · skip
                    go_simp
                    refine (pick_any (w.heap.size + 1) (((((0 + 1000) + 2) + 2) + 2) + 2) (M1) _ Cz (by omega) (by omega) (by omega)).mono ?_
                    rintro e wq116 ⟨x9, rfl, hx9, hc, hg⟩
                    clear Cz
                    have Cz := hc
                    replace Bxz := Bxz.mark hg (fun z hz => by cases hz; omega)
                    replace Brz := Brz.mark hg (fun z hz => by cases hz; omega)
                    replace Oz := Oz.mark hg (fun z z' hz hz' => by cases hz; exact fun e => hne1 z' hz' e.symm)
                    replace HHz := HHz.trans (grown_below (B := w.heap.size) hg (by omega) HHz.size)
                    replace Lit22 := Lit22.mark hg (fun z hz => by cases hz; omega)
                    clear hc hg
                    refine hK.out _ _ (by exact ⟨Bxz.cell 0, Bxz.cell 1, Bxz.cell 2⟩) (fun hHeld => ?_)
                    clear hK K
                    (try simp only [Act.put, List.getElem_toArray, List.getElem_cons_zero, List.getElem_cons_succ, List.setIfInBounds_toArray, List.set_cons_zero, List.set_cons_succ])
                    revert hHeld; revert hx9; revert hqp22; revert Lit22; revert HHz; revert Oz; revert Brz; revert Bxz; revert Cz; revert x9; revert q22; revert wq116
                    exact keyP5 true
                  refine AllReadyH.cons rfl (fun K hK => ?_) AllReadyH.nil
                  go_simp
                  have hal := (Below.refl wq106.heap.size wq106).alloc (Nat.le_refl _) (.cells #[.int .i64 1, .int .i64 1, .int .i64 1, .int .i64 2, .int .i64 0] 3)
                  have hcl := Cz.lt
                  replace Cz := Cz.all hal
                  replace Bxz := Bxz.all hal
                  replace Brz := Brz.all hal
                  replace Oz := Oz.all hal
                  replace HHz := HHz.alloc HHz.size (.cells #[.int .i64 1, .int .i64 1, .int .i64 1, .int .i64 2, .int .i64 0] 3)
                  replace Lit22 := Lit22.all hal
                  have Lit11 : Blk _ (wq106.heap.size) _ _ := Blk.new wq106 #[.int .i64 1, .int .i64 1, .int .i64 1, .int .i64 2, .int .i64 0] 3
                  obtain ⟨q11, hq⟩ : ∃ q, wq106.heap.size = q := ⟨_, rfl⟩
                  rw [hq] at Lit11 ⊢
                  have hqp11 : q11 ≠ (w.heap.size + 1) := by omega
                  clear hcl
                  obtain ⟨wq117, hw⟩ : ∃ v, wq106.alloc (.cells #[.int .i64 1, .int .i64 1, .int .i64 1, .int .i64 2, .int .i64 0] 3) = v := ⟨_, rfl⟩
                  rw [hw] at Cz Bxz Brz Oz HHz Lit22 Lit11 ⊢
                  clear hal hw hq
                  refine hK.out _ _ (by exact ⟨Bxz.cell 0, Bxz.cell 1, Bxz.cell 2⟩) (fun hHeld => ?_)
                  clear hK K
                  (try simp only [Act.put, List.getElem_toArray, List.getElem_cons_zero, List.getElem_cons_succ, List.setIfInBounds_toArray, List.set_cons_zero, List.set_cons_succ])
                  revert hHeld; revert hqp22; revert hqp11; revert Lit22; revert Lit11; revert HHz; revert Oz; revert Brz; revert Bxz; revert Cz; revert q22; revert q11; revert wq117
                  exact keyP4 true
              case keyP3 =>
                intro _ wq103 q11 x9 Cz Bxz Brz Oz HHz Lit11 hqp11 hx9 hHeld
                clear hHeld
                refine wpAnyH_ready (rs := [12, 22]) (by kernel_rfl) (by simp) ?_
                refine AllReadyH.cons rfl (fun K hK => ?_) ?_
                · skip
                  go_simp
                  refine (among_any (w.heap.size + 1) ((((((0 + 1000) + 2) + 2) + 2) + 2) + 2) q11 0 5 5 _ [1, 1, 1, 2, 0] _ Cz (by omega) (lit_rd2 (xs := [1, 1, 1, 2, 0]) Lit11 (I64.lit (by decide)) (by decide)) (by omega) (by omega) (by omega)).mono ?_
                  rintro e wq118 ⟨x12, rfl, -, hc, hg⟩
                  clear Cz
                  have Cz := hc
                  replace Bxz := Bxz.mark hg (fun z hz => by cases hz; omega)
                  replace Brz := Brz.mark hg (fun z hz => by cases hz; omega)
                  replace Oz := Oz.mark hg (fun z z' hz hz' => by cases hz; exact fun e => hne1 z' hz' e.symm)
                  replace HHz := HHz.trans (grown_below (B := w.heap.size) hg (by omega) HHz.size)
                  replace Lit11 := Lit11.mark hg (fun z hz => by cases hz; omega)
                  clear hc hg
                  refine hK.out _ _ (by exact ⟨Bxz.cell 0, Bxz.cell 1, Bxz.cell 2⟩) (fun hHeld => ?_)
                  clear hK K
                  (try simp only [Act.put, List.getElem_toArray, List.getElem_cons_zero, List.getElem_cons_succ, List.setIfInBounds_toArray, List.set_cons_zero, List.set_cons_succ])
                  refine wpAnyH_take (i := 13) (v := ?_) rfl (by kernel_rfl) (by kernel_rfl) (by kernel_rfl) (fun _ _ _ h => h) (Or.inl ⟨by rfl, ?_⟩) (by assumption) ?_
                  rotate_left
                  · intro w hSw; (try dsimp only at hSw); go_simp; (try with_reducible rfl)
                  (try simp only [Act.put, List.getElem_toArray, List.getElem_cons_zero, List.getElem_cons_succ, List.setIfInBounds_toArray, List.set_cons_zero, List.set_cons_succ])
                  clear hHeld
                  refine wpAnyH_ready (rs := [19, 22]) (by kernel_rfl) (by simp) ?_
                  refine AllReadyH.cons rfl (fun K hK => ?_) ?_
                  · skip
                    go_simp
                    refine (l1Most_v 1 (W - col) M2 _ KM2.out).mono ?_
                    rintro e wq119 ⟨rfl, rfl⟩
                    refine hK.out _ _ (by exact ⟨Bxz.cell 0, Bxz.cell 1, Bxz.cell 2⟩) (fun hHeld => ?_)
                    clear hK K
                    (try simp only [Act.put, List.getElem_toArray, List.getElem_cons_zero, List.getElem_cons_succ, List.setIfInBounds_toArray, List.set_cons_zero, List.set_cons_succ])
                    clear hHeld
                    refine wpAnyH_ready (rs := [20, 22]) (by kernel_rfl) (by simp) ?_
                    refine AllReadyH.cons rfl (fun K hK => ?_) ?_
                    · skip
                      go_simp
                      refine (pick_any (w.heap.size + 1) (((((((0 + 1000) + 2) + 2) + 2) + 2) + 2) + 2) (M2) _ Cz (by omega) (by omega) (by omega)).mono ?_
                      rintro e wq120 ⟨x20, rfl, hx20, hc, hg⟩
                      clear Cz
                      have Cz := hc
                      replace Bxz := Bxz.mark hg (fun z hz => by cases hz; omega)
                      replace Brz := Brz.mark hg (fun z hz => by cases hz; omega)
                      replace Oz := Oz.mark hg (fun z z' hz hz' => by cases hz; exact fun e => hne1 z' hz' e.symm)
                      replace HHz := HHz.trans (grown_below (B := w.heap.size) hg (by omega) HHz.size)
                      replace Lit11 := Lit11.mark hg (fun z hz => by cases hz; omega)
                      clear hc hg
                      refine hK.out _ _ (by exact ⟨Bxz.cell 0, Bxz.cell 1, Bxz.cell 2⟩) (fun hHeld => ?_)
                      clear hK K
                      (try simp only [Act.put, List.getElem_toArray, List.getElem_cons_zero, List.getElem_cons_succ, List.setIfInBounds_toArray, List.set_cons_zero, List.set_cons_succ])
                      clear hHeld
                      refine wpAnyH_ready (rs := [22]) (by kernel_rfl) (by simp) ?_
                      refine AllReadyH.cons rfl (fun K hK => ?_) AllReadyH.nil
                      go_simp
                      have hal := (Below.refl wq120.heap.size wq120).alloc (Nat.le_refl _) (.cells #[.int .i64 1, .int .i64 1, .int .i64 1, .int .i64 2, .int .i64 0] 3)
                      have hcl := Cz.lt
                      replace Cz := Cz.all hal
                      replace Bxz := Bxz.all hal
                      replace Brz := Brz.all hal
                      replace Oz := Oz.all hal
                      replace HHz := HHz.alloc HHz.size (.cells #[.int .i64 1, .int .i64 1, .int .i64 1, .int .i64 2, .int .i64 0] 3)
                      replace Lit11 := Lit11.all hal
                      have Lit22 : Blk _ (wq120.heap.size) _ _ := Blk.new wq120 #[.int .i64 1, .int .i64 1, .int .i64 1, .int .i64 2, .int .i64 0] 3
                      obtain ⟨q22, hq⟩ : ∃ q, wq120.heap.size = q := ⟨_, rfl⟩
                      rw [hq] at Lit22 ⊢
                      have hqp22 : q22 ≠ (w.heap.size + 1) := by omega
                      clear hcl
                      obtain ⟨wq121, hw⟩ : ∃ v, wq120.alloc (.cells #[.int .i64 1, .int .i64 1, .int .i64 1, .int .i64 2, .int .i64 0] 3) = v := ⟨_, rfl⟩
                      rw [hw] at Cz Bxz Brz Oz HHz Lit11 Lit22 ⊢
                      clear hal hw hq
                      refine hK.out _ _ (by exact ⟨Bxz.cell 0, Bxz.cell 1, Bxz.cell 2⟩) (fun hHeld => ?_)
                      clear hK K
                      (try simp only [Act.put, List.getElem_toArray, List.getElem_cons_zero, List.getElem_cons_succ, List.setIfInBounds_toArray, List.set_cons_zero, List.set_cons_succ])
                      revert hHeld; revert hx9; revert hx20; revert hqp22; revert hqp11; revert Lit22; revert Lit11; revert HHz; revert Oz; revert Brz; revert Bxz; revert Cz; revert x9; revert x20; revert x12; revert q22; revert q11; revert wq121
                      exact keyP9 true
                    refine AllReadyH.cons rfl (fun K hK => ?_) AllReadyH.nil
                    go_simp
                    have hal := (Below.refl wq118.heap.size wq118).alloc (Nat.le_refl _) (.cells #[.int .i64 1, .int .i64 1, .int .i64 1, .int .i64 2, .int .i64 0] 3)
                    have hcl := Cz.lt
                    replace Cz := Cz.all hal
                    replace Bxz := Bxz.all hal
                    replace Brz := Brz.all hal
                    replace Oz := Oz.all hal
                    replace HHz := HHz.alloc HHz.size (.cells #[.int .i64 1, .int .i64 1, .int .i64 1, .int .i64 2, .int .i64 0] 3)
                    replace Lit11 := Lit11.all hal
                    have Lit22 : Blk _ (wq118.heap.size) _ _ := Blk.new wq118 #[.int .i64 1, .int .i64 1, .int .i64 1, .int .i64 2, .int .i64 0] 3
                    obtain ⟨q22, hq⟩ : ∃ q, wq118.heap.size = q := ⟨_, rfl⟩
                    rw [hq] at Lit22 ⊢
                    have hqp22 : q22 ≠ (w.heap.size + 1) := by omega
                    clear hcl
                    obtain ⟨wq122, hw⟩ : ∃ v, wq118.alloc (.cells #[.int .i64 1, .int .i64 1, .int .i64 1, .int .i64 2, .int .i64 0] 3) = v := ⟨_, rfl⟩
                    rw [hw] at Cz Bxz Brz Oz HHz Lit11 Lit22 ⊢
                    clear hal hw hq
                    refine hK.out _ _ (by exact ⟨Bxz.cell 0, Bxz.cell 1, Bxz.cell 2⟩) (fun hHeld => ?_)
                    clear hK K
                    (try simp only [Act.put, List.getElem_toArray, List.getElem_cons_zero, List.getElem_cons_succ, List.setIfInBounds_toArray, List.set_cons_zero, List.set_cons_succ])
                    revert hHeld; revert hx9; revert hqp22; revert hqp11; revert Lit22; revert Lit11; revert HHz; revert Oz; revert Brz; revert Bxz; revert Cz; revert x9; revert x12; revert q22; revert q11; revert wq122
                    exact keyP8 true
                  refine AllReadyH.cons rfl (fun K hK => ?_) AllReadyH.nil
                  go_simp
                  have hal := (Below.refl wq118.heap.size wq118).alloc (Nat.le_refl _) (.cells #[.int .i64 1, .int .i64 1, .int .i64 1, .int .i64 2, .int .i64 0] 3)
                  have hcl := Cz.lt
                  replace Cz := Cz.all hal
                  replace Bxz := Bxz.all hal
                  replace Brz := Brz.all hal
                  replace Oz := Oz.all hal
                  replace HHz := HHz.alloc HHz.size (.cells #[.int .i64 1, .int .i64 1, .int .i64 1, .int .i64 2, .int .i64 0] 3)
                  replace Lit11 := Lit11.all hal
                  have Lit22 : Blk _ (wq118.heap.size) _ _ := Blk.new wq118 #[.int .i64 1, .int .i64 1, .int .i64 1, .int .i64 2, .int .i64 0] 3
                  obtain ⟨q22, hq⟩ : ∃ q, wq118.heap.size = q := ⟨_, rfl⟩
                  rw [hq] at Lit22 ⊢
                  have hqp22 : q22 ≠ (w.heap.size + 1) := by omega
                  clear hcl
                  obtain ⟨wq123, hw⟩ : ∃ v, wq118.alloc (.cells #[.int .i64 1, .int .i64 1, .int .i64 1, .int .i64 2, .int .i64 0] 3) = v := ⟨_, rfl⟩
                  rw [hw] at Cz Bxz Brz Oz HHz Lit11 Lit22 ⊢
                  clear hal hw hq
                  refine hK.out _ _ (by exact ⟨Bxz.cell 0, Bxz.cell 1, Bxz.cell 2⟩) (fun hHeld => ?_)
                  clear hK K
                  (try simp only [Act.put, List.getElem_toArray, List.getElem_cons_zero, List.getElem_cons_succ, List.setIfInBounds_toArray, List.set_cons_zero, List.set_cons_succ])
                  revert hHeld; revert hx9; revert hqp22; revert hqp11; revert Lit22; revert Lit11; revert HHz; revert Oz; revert Brz; revert Bxz; revert Cz; revert x9; revert x12; revert q22; revert q11; revert wq123
                  exact keyP7 true
                refine AllReadyH.cons rfl (fun K hK => ?_) AllReadyH.nil
                go_simp
                have hal := (Below.refl wq103.heap.size wq103).alloc (Nat.le_refl _) (.cells #[.int .i64 1, .int .i64 1, .int .i64 1, .int .i64 2, .int .i64 0] 3)
                have hcl := Cz.lt
                replace Cz := Cz.all hal
                replace Bxz := Bxz.all hal
                replace Brz := Brz.all hal
                replace Oz := Oz.all hal
                replace HHz := HHz.alloc HHz.size (.cells #[.int .i64 1, .int .i64 1, .int .i64 1, .int .i64 2, .int .i64 0] 3)
                replace Lit11 := Lit11.all hal
                have Lit22 : Blk _ (wq103.heap.size) _ _ := Blk.new wq103 #[.int .i64 1, .int .i64 1, .int .i64 1, .int .i64 2, .int .i64 0] 3
                obtain ⟨q22, hq⟩ : ∃ q, wq103.heap.size = q := ⟨_, rfl⟩
                rw [hq] at Lit22 ⊢
                have hqp22 : q22 ≠ (w.heap.size + 1) := by omega
                clear hcl
                obtain ⟨wq124, hw⟩ : ∃ v, wq103.alloc (.cells #[.int .i64 1, .int .i64 1, .int .i64 1, .int .i64 2, .int .i64 0] 3) = v := ⟨_, rfl⟩
                rw [hw] at Cz Bxz Brz Oz HHz Lit11 Lit22 ⊢
                clear hal hw hq
                refine hK.out _ _ (by exact ⟨Bxz.cell 0, Bxz.cell 1, Bxz.cell 2⟩) (fun hHeld => ?_)
                clear hK K
                (try simp only [Act.put, List.getElem_toArray, List.getElem_cons_zero, List.getElem_cons_succ, List.setIfInBounds_toArray, List.set_cons_zero, List.set_cons_succ])
                revert hHeld; revert hx9; revert hqp22; revert hqp11; revert Lit22; revert Lit11; revert HHz; revert Oz; revert Brz; revert Bxz; revert Cz; revert x9; revert q22; revert q11; revert wq124
                exact keyP6 true
            case keyP4 =>
              intro _ wq109 q11 q22 Cz Bxz Brz Oz HHz Lit11 Lit22 hqp11 hqp22 hHeld
              clear hHeld
              refine wpAnyH_ready (rs := [9]) (by kernel_rfl) (by simp) ?_
              refine AllReadyH.cons rfl (fun K hK => ?_) AllReadyH.nil
              go_simp
              refine (pick_any (w.heap.size + 1) (((((0 + 1000) + 2) + 2) + 2) + 2) (M1) _ Cz (by omega) (by omega) (by omega)).mono ?_
              rintro e wq125 ⟨x9, rfl, hx9, hc, hg⟩
              clear Cz
              have Cz := hc
              replace Bxz := Bxz.mark hg (fun z hz => by cases hz; omega)
              replace Brz := Brz.mark hg (fun z hz => by cases hz; omega)
              replace Oz := Oz.mark hg (fun z z' hz hz' => by cases hz; exact fun e => hne1 z' hz' e.symm)
              replace HHz := HHz.trans (grown_below (B := w.heap.size) hg (by omega) HHz.size)
              replace Lit11 := Lit11.mark hg (fun z hz => by cases hz; omega)
              replace Lit22 := Lit22.mark hg (fun z hz => by cases hz; omega)
              clear hc hg
              refine hK.out _ _ (by exact ⟨Bxz.cell 0, Bxz.cell 1, Bxz.cell 2⟩) (fun hHeld => ?_)
              clear hK K
              (try simp only [Act.put, List.getElem_toArray, List.getElem_cons_zero, List.getElem_cons_succ, List.setIfInBounds_toArray, List.set_cons_zero, List.set_cons_succ])
              revert hHeld; revert hx9; revert hqp22; revert hqp11; revert Lit22; revert Lit11; revert HHz; revert Oz; revert Brz; revert Bxz; revert Cz; revert x9; revert q22; revert q11; revert wq125
              exact keyP6 true
          case keyP5 =>
            intro _ wq104 q22 x9 Cz Bxz Brz Oz HHz Lit22 hqp22 hx9 hHeld
            clear hHeld
            refine wpAnyH_ready (rs := [11]) (by kernel_rfl) (by simp) ?_
            refine AllReadyH.cons rfl (fun K hK => ?_) AllReadyH.nil
            go_simp
            have hal := (Below.refl wq104.heap.size wq104).alloc (Nat.le_refl _) (.cells #[.int .i64 1, .int .i64 1, .int .i64 1, .int .i64 2, .int .i64 0] 3)
            have hcl := Cz.lt
            replace Cz := Cz.all hal
            replace Bxz := Bxz.all hal
            replace Brz := Brz.all hal
            replace Oz := Oz.all hal
            replace HHz := HHz.alloc HHz.size (.cells #[.int .i64 1, .int .i64 1, .int .i64 1, .int .i64 2, .int .i64 0] 3)
            replace Lit22 := Lit22.all hal
            have Lit11 : Blk _ (wq104.heap.size) _ _ := Blk.new wq104 #[.int .i64 1, .int .i64 1, .int .i64 1, .int .i64 2, .int .i64 0] 3
            obtain ⟨q11, hq⟩ : ∃ q, wq104.heap.size = q := ⟨_, rfl⟩
            rw [hq] at Lit11 ⊢
            have hqp11 : q11 ≠ (w.heap.size + 1) := by omega
            clear hcl
            obtain ⟨wq126, hw⟩ : ∃ v, wq104.alloc (.cells #[.int .i64 1, .int .i64 1, .int .i64 1, .int .i64 2, .int .i64 0] 3) = v := ⟨_, rfl⟩
            rw [hw] at Cz Bxz Brz Oz HHz Lit22 Lit11 ⊢
            clear hal hw hq
            refine hK.out _ _ (by exact ⟨Bxz.cell 0, Bxz.cell 1, Bxz.cell 2⟩) (fun hHeld => ?_)
            clear hK K
            (try simp only [Act.put, List.getElem_toArray, List.getElem_cons_zero, List.getElem_cons_succ, List.setIfInBounds_toArray, List.set_cons_zero, List.set_cons_succ])
            revert hHeld; revert hx9; revert hqp22; revert hqp11; revert Lit22; revert Lit11; revert HHz; revert Oz; revert Brz; revert Bxz; revert Cz; revert x9; revert q22; revert q11; revert wq126
            exact keyP6 true
        case keyP6 =>
          intro _ wq124 q11 q22 x9 Cz Bxz Brz Oz HHz Lit11 Lit22 hqp11 hqp22 hx9 hHeld
          clear hHeld
          refine wpAnyH_ready (rs := [12]) (by kernel_rfl) (by simp) ?_
          refine AllReadyH.cons rfl (fun K hK => ?_) AllReadyH.nil
          go_simp
          refine (among_any (w.heap.size + 1) ((((((0 + 1000) + 2) + 2) + 2) + 2) + 2) q11 0 5 5 _ [1, 1, 1, 2, 0] _ Cz (by omega) (lit_rd2 (xs := [1, 1, 1, 2, 0]) Lit11 (I64.lit (by decide)) (by decide)) (by omega) (by omega) (by omega)).mono ?_
          rintro e wq127 ⟨x12, rfl, -, hc, hg⟩
          clear Cz
          have Cz := hc
          replace Bxz := Bxz.mark hg (fun z hz => by cases hz; omega)
          replace Brz := Brz.mark hg (fun z hz => by cases hz; omega)
          replace Oz := Oz.mark hg (fun z z' hz hz' => by cases hz; exact fun e => hne1 z' hz' e.symm)
          replace HHz := HHz.trans (grown_below (B := w.heap.size) hg (by omega) HHz.size)
          replace Lit11 := Lit11.mark hg (fun z hz => by cases hz; omega)
          replace Lit22 := Lit22.mark hg (fun z hz => by cases hz; omega)
          clear hc hg
          refine hK.out _ _ (by exact ⟨Bxz.cell 0, Bxz.cell 1, Bxz.cell 2⟩) (fun hHeld => ?_)
          clear hK K
          (try simp only [Act.put, List.getElem_toArray, List.getElem_cons_zero, List.getElem_cons_succ, List.setIfInBounds_toArray, List.set_cons_zero, List.set_cons_succ])
          refine wpAnyH_take (i := 13) (v := ?_) rfl (by kernel_rfl) (by kernel_rfl) (by kernel_rfl) (fun _ _ _ h => h) (Or.inl ⟨by rfl, ?_⟩) (by assumption) ?_
          rotate_left
          · intro w hSw; (try dsimp only at hSw); go_simp; (try with_reducible rfl)
          (try simp only [Act.put, List.getElem_toArray, List.getElem_cons_zero, List.getElem_cons_succ, List.setIfInBounds_toArray, List.set_cons_zero, List.set_cons_succ])
          revert hHeld; revert hx9; revert hqp22; revert hqp11; revert Lit22; revert Lit11; revert HHz; revert Oz; revert Brz; revert Bxz; revert Cz; revert x9; revert x12; revert q22; revert q11; revert wq127
          exact keyP7 true
      case keyP7 =>
        intro _ wq123 q11 q22 x12 x9 Cz Bxz Brz Oz HHz Lit11 Lit22 hqp11 hqp22 hx9 hHeld
        clear hHeld
        refine wpAnyH_ready (rs := [19]) (by kernel_rfl) (by simp) ?_
        refine AllReadyH.cons rfl (fun K hK => ?_) AllReadyH.nil
        go_simp
        refine (l1Most_v 1 (W - col) M2 _ KM2.out).mono ?_
        rintro e wq128 ⟨rfl, rfl⟩
        refine hK.out _ _ (by exact ⟨Bxz.cell 0, Bxz.cell 1, Bxz.cell 2⟩) (fun hHeld => ?_)
        clear hK K
        (try simp only [Act.put, List.getElem_toArray, List.getElem_cons_zero, List.getElem_cons_succ, List.setIfInBounds_toArray, List.set_cons_zero, List.set_cons_succ])
        revert hHeld; revert hx9; revert hqp22; revert hqp11; revert Lit22; revert Lit11; revert HHz; revert Oz; revert Brz; revert Bxz; revert Cz; revert x9; revert x12; revert q22; revert q11; revert wq123
        exact keyP8 true
    case keyP8 =>
      intro _ wq122 q11 q22 x12 x9 Cz Bxz Brz Oz HHz Lit11 Lit22 hqp11 hqp22 hx9 hHeld
      clear hHeld
      refine wpAnyH_ready (rs := [20]) (by kernel_rfl) (by simp) ?_
      refine AllReadyH.cons rfl (fun K hK => ?_) AllReadyH.nil
      go_simp
      refine (pick_any (w.heap.size + 1) (((((((0 + 1000) + 2) + 2) + 2) + 2) + 2) + 2) (M2) _ Cz (by omega) (by omega) (by omega)).mono ?_
      rintro e wq129 ⟨x20, rfl, hx20, hc, hg⟩
      clear Cz
      have Cz := hc
      replace Bxz := Bxz.mark hg (fun z hz => by cases hz; omega)
      replace Brz := Brz.mark hg (fun z hz => by cases hz; omega)
      replace Oz := Oz.mark hg (fun z z' hz hz' => by cases hz; exact fun e => hne1 z' hz' e.symm)
      replace HHz := HHz.trans (grown_below (B := w.heap.size) hg (by omega) HHz.size)
      replace Lit11 := Lit11.mark hg (fun z hz => by cases hz; omega)
      replace Lit22 := Lit22.mark hg (fun z hz => by cases hz; omega)
      clear hc hg
      refine hK.out _ _ (by exact ⟨Bxz.cell 0, Bxz.cell 1, Bxz.cell 2⟩) (fun hHeld => ?_)
      clear hK K
      (try simp only [Act.put, List.getElem_toArray, List.getElem_cons_zero, List.getElem_cons_succ, List.setIfInBounds_toArray, List.set_cons_zero, List.set_cons_succ])
      revert hHeld; revert hx9; revert hx20; revert hqp22; revert hqp11; revert Lit22; revert Lit11; revert HHz; revert Oz; revert Brz; revert Bxz; revert Cz; revert x9; revert x20; revert x12; revert q22; revert q11; revert wq129
      exact keyP9 true
  case keyP9 =>
    intro _ wq121 q11 q22 x12 x20 x9 Cz Bxz Brz Oz HHz Lit11 Lit22 hqp11 hqp22 hx20 hx9 hHeld
    clear hHeld
    refine wpAnyH_ready (rs := [23]) (by kernel_rfl) (by simp) ?_
    refine AllReadyH.cons rfl (fun K hK => ?_) AllReadyH.nil
    go_simp
    refine (among_any (w.heap.size + 1) ((((((((0 + 1000) + 2) + 2) + 2) + 2) + 2) + 2) + 2) q22 0 5 5 _ [1, 1, 1, 2, 0] _ Cz (by omega) (lit_rd2 (xs := [1, 1, 1, 2, 0]) Lit22 (I64.lit (by decide)) (by decide)) (by omega) (by omega) (by omega)).mono ?_
    rintro e wq130 ⟨x23, rfl, -, hc, hg⟩
    clear Cz
    have Cz := hc
    replace Bxz := Bxz.mark hg (fun z hz => by cases hz; omega)
    replace Brz := Brz.mark hg (fun z hz => by cases hz; omega)
    replace Oz := Oz.mark hg (fun z z' hz hz' => by cases hz; exact fun e => hne1 z' hz' e.symm)
    replace HHz := HHz.trans (grown_below (B := w.heap.size) hg (by omega) HHz.size)
    replace Lit11 := Lit11.mark hg (fun z hz => by cases hz; omega)
    replace Lit22 := Lit22.mark hg (fun z hz => by cases hz; omega)
    clear hc hg
    refine hK.out _ _ (by exact ⟨Bxz.cell 0, Bxz.cell 1, Bxz.cell 2⟩) (fun hHeld => ?_)
    clear hK K
    (try simp only [Act.put, List.getElem_toArray, List.getElem_cons_zero, List.getElem_cons_succ, List.setIfInBounds_toArray, List.set_cons_zero, List.set_cons_succ])
    refine wpAnyH_take (i := 24) (v := ?_) rfl (by kernel_rfl) (by kernel_rfl) (by kernel_rfl) (fun _ _ _ h => h) (Or.inl ⟨by rfl, ?_⟩) (by assumption) ?_
    rotate_left
    · intro w hSw; (try dsimp only at hSw); go_simp; (try with_reducible rfl)
    (try simp only [Act.put, List.getElem_toArray, List.getElem_cons_zero, List.getElem_cons_succ, List.setIfInBounds_toArray, List.set_cons_zero, List.set_cons_succ])
    clear hHeld
    refine wpAnyH_ready (rs := [25]) (by kernel_rfl) (by simp) ?_
    refine AllReadyH.cons rfl (fun K hK => ?_) AllReadyH.nil
    have g0_131 := Brz.cell 0
    have g1_131 := Brz.cell 1
    have g2_131 := Brz.cell 2
    have z0_131 := Brz.frozen 0
    have z1_131 := Brz.frozen 1
    have z2_131 := Brz.frozen 2
    have F_131 := fin3 (p := w.heap.size) (a := .int .i64 W) (b := .int .i64 H) (c := .slice A1 xs.length c1) Oz (row_ne' Oz.1 Brz (by decide)) HHz (Nat.le_refl _)
    have Bx_131 := Bxz.far3' (p := w.heap.size) (a := .int .i64 W) (b := .int .i64 H) (c := .slice A1 xs.length c1) (by omega)
    have Br_131 := Brz.put3' (.int .i64 W) (.int .i64 H) (.slice A1 xs.length c1)
    go_simp
    refine hK.out _ _ (by exact ⟨Bx_131.cell 0, Bx_131.cell 1, Bx_131.cell 2⟩) (fun hHeld => ?_)
    clear hK K
    (try simp only [Act.put, List.getElem_toArray, List.getElem_cons_zero, List.getElem_cons_succ, List.setIfInBounds_toArray, List.set_cons_zero, List.set_cons_succ])
    refine wpAnyH_take (i := 26) (v := ?_) rfl (by kernel_rfl) (by kernel_rfl) (by kernel_rfl) (fun _ _ _ h => h) (Or.inl ⟨by rfl, ?_⟩) (by assumption) ?_
    rotate_left
    · intro w hSw; (try dsimp only at hSw); go_simp; (try with_reducible rfl)
    (try simp only [Act.put, List.getElem_toArray, List.getElem_cons_zero, List.getElem_cons_succ, List.setIfInBounds_toArray, List.set_cons_zero, List.set_cons_succ])
    refine wpAnyH_take (i := 27) (v := ?_) rfl (by kernel_rfl) (by kernel_rfl) (by kernel_rfl) (fun _ _ _ h => h) (Or.inl ⟨by rfl, ?_⟩) (by assumption) ?_
    rotate_left
    · intro w hSw; (try dsimp only at hSw); go_simp; (try with_reducible rfl)
    (try simp only [Act.put, List.getElem_toArray, List.getElem_cons_zero, List.getElem_cons_succ, List.setIfInBounds_toArray, List.set_cons_zero, List.set_cons_succ])
    refine wpAnyH_take (i := 28) (v := ?_) rfl (by kernel_rfl) (by kernel_rfl) (by kernel_rfl) (fun _ _ _ h => h) (Or.inl ⟨by rfl, ?_⟩) (by assumption) ?_
    rotate_left
    · intro w hSw; (try dsimp only at hSw); go_simp; (try with_reducible rfl)
    (try simp only [Act.put, List.getElem_toArray, List.getElem_cons_zero, List.getElem_cons_succ, List.setIfInBounds_toArray, List.set_cons_zero, List.set_cons_succ])
    refine wpAnyH_take (i := 29) (v := ?_) rfl (by kernel_rfl) (by kernel_rfl) (by kernel_rfl) (fun _ _ _ h => h) (Or.inl ⟨by rfl, ?_⟩) (by assumption) ?_
    rotate_left
    · intro w hSw; (try dsimp only at hSw); go_simp; (try with_reducible rfl)
    (try simp only [Act.put, List.getElem_toArray, List.getElem_cons_zero, List.getElem_cons_succ, List.setIfInBounds_toArray, List.set_cons_zero, List.set_cons_succ])
    refine wpAnyH_done (by kernel_rfl) ?_ _
    refine NoPanic.normal ?_
    have g0 := Br_131.cell 0
    have g1 := Br_131.cell 1
    have g2 := Br_131.cell 2
    have F := F_131
    go_wp2
    exact bodyPost_ret (v := .tuple #[chartV W H (.slice A1 xs.length c1), .int .i64 row, .int .i64 col, .int .i64 (IntKind.i64.wrap (x9 + x12)), .int .i64 (IntKind.i64.wrap (x20 + x23))]) (by simp [results, Try.results5, go_sem, g0, g1, g2]) rfl ⟨W, H, A1, c1, xs, _, _, _, _, rfl, hsm, ⟨by omega, by omega⟩, ⟨by omega, by omega⟩, wrap_i64 _, wrap_i64 _, F.1, F.2⟩
end Go.Proofs.Ytbhdgpkfighjfaa
