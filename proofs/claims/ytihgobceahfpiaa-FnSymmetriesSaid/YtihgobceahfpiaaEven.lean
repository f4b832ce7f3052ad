/- The walks of the cursor's even and of the draws of chapter 4. Condition: few draws. -/
import Derived.Test.YtihgobceahfpiaaDrawChart
import Derived.Test.YtihgobceahfpiaaCompletes
import Derived.Deep.DeepCutAuto
namespace Go.Proofs.Ytihgobceahfpiaa
open Go.RowKit

/-- What a drawn chart is like. -/
def Small (W H : Int) (xs : List Int) : Prop := xs.length ≤ 1000 ∧ I64 W ∧ I64 H
theorem compX_small (W H : Int) (xs : List Int) (s : Int) (hW : I64 W) (hH : I64 H) : Small (orZero (compOk W H xs s) W) (orZero (compOk W H xs s) H) (compX W H xs s) := by
  refine ⟨?_, ?_, ?_⟩
  · unfold compX
    split
    · rename_i h
      have := (good_bd (comp_yes h).1).1
      rw [compL_len]
      omega
    · simp
  · unfold orZero; split
    · exact hW
    · exact ⟨by omega, by omega⟩
  · unfold orZero; split
    · exact hH
    · exact ⟨by omega, by omega⟩
set_option maxRecDepth 100000 in
set_option maxHeartbeats 16000000 in
theorem even_any (p k : Nat) (w : World) (h : Cur w p k) (hk : k + 3000 ≤ 4294967296) : Calls Try.prog 71 #[.pointer (some ⟨p, 0, none⟩)] w (DrewChart w p (k + 3000) Small) := by
  have hpw := h.lt
  have hb0 := (Below.refl w.heap.size w).alloc (Nat.le_refl _) (.cells #[.int .i64 0, .int .i64 0, .slice none 0 0] 26)
  have HG0 := Lib.hid (below_grown (row := some p) hb0)
  have hc0 := h.all hb0
  have r0 := Blk.new w #[.int .i64 0, .int .i64 0, .slice none 0 0] 26
  clear h hb0
  go_enter Try.func71, Try.ntmps71
  go_wp2_with fail
  refine (among_lit p k (w.heap.size + 1) 5 [1, 2, 3, 4, 5] (w.alloc (.cells #[.int .i64 0, .int .i64 0, .slice none 0 0] 26)) (by simp) rfl hc0 (by omega) (by decide) (by decide) (I64.lit (by decide))).mono ?_
  rintro e w1 ⟨y1, rfl, hy1, hc1, hg1⟩
  have hy1b : 1 ≤ y1 ∧ y1 ≤ 5 := by simp at hy1; omega
  have r1 := r0.mark hg1 (fun z hz => by cases hz; omega)
  have HG1 := Lib.hid (grown_trans HG0.out hg1)
  obtain ⟨W, rfl⟩ := Int.eq_ofNat_of_zero_le (show 0 ≤ y1 by omega)
  have hWH : W * W ≤ 5 * 5 := Nat.mul_le_mul (by omega) (by omega)
  clear hc0 hg1 r0 HG0 hy1
  go_wp2_with fail
  refine (plain_any p (k + 2) W W _ hc1 (by omega) (by omega) (by omega)).mono ?_
  rintro e w3 ⟨W', H', A, c, xs, rfl, ⟨rfl, rfl, hxl⟩, own3, hc3, hg3⟩
  replace hc3 := hc3.more (show _ ≤ k + 200 by omega)
  have r3 := r1.mark hg3 (fun z hz => by cases hz; omega)
  have HG3 := Lib.hid (grown_trans HG1.out hg3)
  replace own3 := own3.mono (show w.heap.size ≤ w1.heap.size from HG1.out.size)
  have hsmall : Small W W xs := ⟨by omega, ⟨by omega, by omega⟩, ⟨by omega, by omega⟩⟩
  clear hc1 hg3 r1 HG1 hxl
  have ob := (Below.refl w3.heap.size w3).alloc (Nat.le_refl _) (.cells #[.int .i64 W, .int .i64 W, .slice A xs.length c] 26)
  have r4 := r3.all ob
  have own4 := own3.all ob
  have hc4 := hc3.all ob
  have q4 := Blk.new w3 #[.int .i64 W, .int .i64 W, .slice A xs.length c] 26
  have HG4 := Lib.hid (grown_trans HG3.out (below_grown (row := some p) ob))
  have hz3 := HG3.out.size
  have hp3 : p < w3.heap.size := hc3.lt
  have hrz3 : w.heap.size < w3.heap.size := r3.lt
  clear ob r3 own3 hc3 HG3
  go_wp2_with fail
  refine (one_any p (k + 200) 3 _ hc4 (by omega) (by omega) (by omega)).mono ?_
  rintro e w5 ⟨d, rfl, hc5, hg5⟩
  have r5 := r4.mark hg5 (fun z hz => by cases hz; omega)
  have own5 := own4.mark hg5 (fun z z' hz hz' => by cases hz; have := (own4.bd z' hz').1; omega)
  have q5 := q4.mark hg5 (fun z hz => by cases hz; omega)
  have HG5 := Lib.hid (grown_trans HG4.out hg5)
  have hz5 := HG5.out.size
  clear hc4 hg5 r4 own4 q4 HG4
  cases d
  · replace hc5 := hc5.more (show _ ≤ k + 2000 by omega)
    have hwS := HG5.out.size
    have hpS := hc5.lt
    have q0 := q5.cell 0
    have q1 := q5.cell 1
    have q2 := q5.cell 2
    have hqp : some w3.heap.size ≠ some p := by simp; omega
    have hqz := q5.lt
    go_wp2_with fail
    go_cut [5, 6] (fun s5 s6 wx => ∃ (s : Int) (Q : Nat) (A6 : Option Addr) (c6 : Nat), s5 = .pointer (some ⟨Q, 0, none⟩) ∧ s6 = .bool (compOk (W : Int) (W : Int) xs s) ∧ w5.heap.size ≤ Q ∧ Blk wx Q 26 #[.int .i64 (orZero (compOk (W : Int) (W : Int) xs s) (W : Int)), .int .i64 (orZero (compOk (W : Int) (W : Int) xs s) (W : Int)), .slice A6 (compX (W : Int) (W : Int) xs s).length c6] ∧ Own wx w5.heap.size (.slice A6 (compX (W : Int) (W : Int) xs s).length c6) (compX (W : Int) (W : Int) xs s) ∧ Cur wx p (k + 2000 + 2) ∧ w5.grownBy wx (some p))
    case first =>
      refine wp_region_noPanic ?_
      refine wp_region_held_drew (S := (fun w' => w'.cell? ⟨w3.heap.size, 0, none⟩ = some (.int .i64 (W : Int)) ∧ w'.cell? ⟨w3.heap.size, 1, none⟩ = some (.int .i64 (W : Int)) ∧ w'.cell? ⟨w3.heap.size, 2, none⟩ = some (.slice A xs.length c))) (by kernel_rfl) (by go_keep) (fun hHeld => ?_)
      refine wpAnyH_take (i := 0) (v := ?_) rfl (by kernel_rfl) (by kernel_rfl) (by kernel_rfl) (fun _ _ _ h => h) (Or.inl ⟨by rfl, ?_⟩) (by assumption) ?_
      rotate_left
      · intro w hSw; (try dsimp only at hSw); go_simp; (try with_reducible rfl)
      (try simp only [Act.put, List.getElem_toArray, List.getElem_cons_zero, List.setIfInBounds_toArray, List.set_cons_zero, List.set_cons_succ])
      refine wpAnyH_take (i := 1) (v := ?_) rfl (by kernel_rfl) (by kernel_rfl) (by kernel_rfl) (fun _ _ _ h => h) (Or.inl ⟨by rfl, ?_⟩) (by assumption) ?_
      rotate_left
      · intro w hSw; (try dsimp only at hSw); go_simp; (try with_reducible rfl)
      (try simp only [Act.put, List.getElem_toArray, List.getElem_cons_zero, List.getElem_cons_succ, List.setIfInBounds_toArray, List.set_cons_zero, List.set_cons_succ])
      clear hHeld
      have hD : w5.grownBy w5.drew (some p) := drew_grown _ _
      have hcd := cur_drew hc5
      refine wpAnyH_ready (rs := [2, 7]) (by kernel_rfl) (by simp) ?_
      refine AllReadyH.cons rfl (fun K hK => ?_) ?_
      · skip
        go_simp
        refine (pick_any p (k + 2000) 8 _ hcd (by omega) (by omega) (by omega)).mono ?_
        rintro e wa ⟨s, rfl, _, hca, hga⟩
        have hGa := grown_trans hD hga
        refine hK.out _ _ (by exact ⟨hGa.cell (a := ⟨w3.heap.size, 0, none⟩) q0 hqp, hGa.cell (a := ⟨w3.heap.size, 1, none⟩) q1 hqp, hGa.cell (a := ⟨w3.heap.size, 2, none⟩) q2 hqp⟩) (fun hHeld => ?_)
        clear hK K
        (try simp only [Act.put, List.getElem_toArray, List.getElem_cons_zero, List.getElem_cons_succ, List.setIfInBounds_toArray, List.set_cons_zero, List.set_cons_succ])
        clear hHeld
        refine wpAnyH_ready (rs := [3, 7]) (by kernel_rfl) (by simp) ?_
        refine AllReadyH.cons rfl (fun K hK => ?_) ?_
        · skip
          have ownc := own5.mark hGa (fun z z' hz hz' => by cases hz; have := (own5.bd z' hz').1; omega)
          go_simp
          refine (specCompleteChart_any (W : Int) (W : Int) A _ c _ xs s _ ownc.rd (Nat.le_refl _)).mono ?_
          rintro e wb ⟨A6, c6, rfl, own6, hb6⟩
          have hGb := grown_trans hGa (below_grown (row := some p) hb6)
          have hcb := hca.all hb6
          replace own6 := own6.mono hGa.size
          refine hK.out _ _ (by exact ⟨hGb.cell (a := ⟨w3.heap.size, 0, none⟩) q0 hqp, hGb.cell (a := ⟨w3.heap.size, 1, none⟩) q1 hqp, hGb.cell (a := ⟨w3.heap.size, 2, none⟩) q2 hqp⟩) (fun hHeld => ?_)
          clear hK K
          (try simp only [Act.put, List.getElem_toArray, List.getElem_cons_zero, List.getElem_cons_succ, List.setIfInBounds_toArray, List.set_cons_zero, List.set_cons_succ])
          refine wpAnyH_take (i := 4) (v := ?_) rfl (by kernel_rfl) (by kernel_rfl) (by kernel_rfl) (fun _ _ _ h => h) (Or.inl ⟨by rfl, ?_⟩) (by assumption) ?_
          rotate_left
          · intro w hSw; (try dsimp only at hSw); go_simp; (try with_reducible rfl)
          (try simp only [Act.put, List.getElem_toArray, List.getElem_cons_zero, List.getElem_cons_succ, List.setIfInBounds_toArray, List.set_cons_zero, List.set_cons_succ])
          refine wpAnyH_take (i := 5) (v := ?_) rfl (by kernel_rfl) (by kernel_rfl) (by kernel_rfl) (fun _ _ _ h => h) (Or.inl ⟨by rfl, ?_⟩) (by assumption) ?_
          rotate_left
          · intro w hSw; (try dsimp only at hSw); go_simp; (try with_reducible rfl)
          (try simp only [Act.put, List.getElem_toArray, List.getElem_cons_zero, List.getElem_cons_succ, List.setIfInBounds_toArray, List.set_cons_zero, List.set_cons_succ])
          refine wpAnyH_take (i := 6) (v := ?_) rfl (by kernel_rfl) (by kernel_rfl) (by kernel_rfl) (fun _ _ _ h => h) (Or.inl ⟨by rfl, ?_⟩) (by assumption) ?_
          rotate_left
          · intro w hSw; (try dsimp only at hSw); go_simp; (try with_reducible rfl)
          (try simp only [Act.put, List.getElem_toArray, List.getElem_cons_zero, List.getElem_cons_succ, List.setIfInBounds_toArray, List.set_cons_zero, List.set_cons_succ])
          clear hHeld
          refine wpAnyH_ready (rs := [7]) (by kernel_rfl) (by simp) ?_
          refine AllReadyH.cons rfl (fun K hK => ?_) AllReadyH.nil
          go_simp
          have hGx := grown_trans hGb (below_grown (row := some p) ((Below.refl wb.heap.size wb).alloc (Nat.le_refl _) (.cells #[.int .i64 0, .int .i64 0, .slice none 0 0] 26)))
          refine hK.out _ _ (by exact ⟨hGx.cell (a := ⟨w3.heap.size, 0, none⟩) q0 hqp, hGx.cell (a := ⟨w3.heap.size, 1, none⟩) q1 hqp, hGx.cell (a := ⟨w3.heap.size, 2, none⟩) q2 hqp⟩) (fun hHeld => ?_)
          clear hK K
          (try simp only [Act.put, List.getElem_toArray, List.getElem_cons_zero, List.getElem_cons_succ, List.setIfInBounds_toArray, List.set_cons_zero, List.set_cons_succ])
          clear hHeld
          refine wpAnyH_ready (rs := [8]) (by kernel_rfl) (by simp) ?_
          refine AllReadyH.cons rfl (fun K hK => ?_) AllReadyH.nil
          go_simp
          have hGy := grown_trans hGb (below_grown (row := some p) ((Below.refl wb.heap.size wb).alloc (Nat.le_refl _) (.cells #[.int .i64 (orZero (compOk (W : Int) (W : Int) xs s) (W : Int)), .int .i64 (orZero (compOk (W : Int) (W : Int) xs s) (W : Int)), .slice A6 (compX (W : Int) (W : Int) xs s).length c6] 26)))
          refine hK.out _ _ (by exact ⟨hGy.cell (a := ⟨w3.heap.size, 0, none⟩) q0 hqp, hGy.cell (a := ⟨w3.heap.size, 1, none⟩) q1 hqp, hGy.cell (a := ⟨w3.heap.size, 2, none⟩) q2 hqp⟩) (fun hHeld => ?_)
          clear hK K
          (try simp only [Act.put, List.getElem_toArray, List.getElem_cons_zero, List.getElem_cons_succ, List.setIfInBounds_toArray, List.set_cons_zero, List.set_cons_succ])
          refine wpAnyH_take (i := 9) (v := ?_) rfl (by kernel_rfl) (by kernel_rfl) (by kernel_rfl) (fun _ _ _ h => h) (Or.inl ⟨by rfl, ?_⟩) (by assumption) ?_
          rotate_left
          · intro w hSw; (try dsimp only at hSw); go_simp; (try with_reducible rfl)
          (try simp only [Act.put, List.getElem_toArray, List.getElem_cons_zero, List.getElem_cons_succ, List.setIfInBounds_toArray, List.set_cons_zero, List.set_cons_succ])
          clear hHeld
          refine wpAnyH_done (by kernel_rfl) ?_ _
          refine NoPanic.normal ?_
          go_wp2_with fail
          go_meet
          exact ⟨s, _, A6, c6, rfl, rfl, hGb.size, Blk.new wb _ _, own6.alloc _, hcb.all ((Below.refl _ _).alloc (Nat.le_refl _) _), hGy⟩
        · refine AllReadyH.cons rfl (fun K hK => ?_) AllReadyH.nil
          go_simp
          have hGz := grown_trans hGa (below_grown (row := some p) ((Below.refl wa.heap.size wa).alloc (Nat.le_refl _) (.cells #[.int .i64 0, .int .i64 0, .slice none 0 0] 26)))
          have hcz := hca.all ((Below.refl wa.heap.size wa).alloc (Nat.le_refl _) (.cells #[.int .i64 0, .int .i64 0, .slice none 0 0] 26))
          have zb0 := Blk.new wa #[.int .i64 0, .int .i64 0, .slice none 0 0] 26
          have hqq : w5.heap.size ≤ wa.heap.size := hGa.size
          refine hK.out _ _ (by exact ⟨hGz.cell (a := ⟨w3.heap.size, 0, none⟩) q0 hqp, hGz.cell (a := ⟨w3.heap.size, 1, none⟩) q1 hqp, hGz.cell (a := ⟨w3.heap.size, 2, none⟩) q2 hqp⟩) (fun hHeld => ?_)
          clear hK K
          (try simp only [Act.put, List.getElem_toArray, List.getElem_cons_zero, List.getElem_cons_succ, List.setIfInBounds_toArray, List.set_cons_zero, List.set_cons_succ])
          clear hHeld
          refine wpAnyH_ready (rs := [3]) (by kernel_rfl) (by simp) ?_
          refine AllReadyH.cons rfl (fun K hK => ?_) AllReadyH.nil
          have ownc := own5.mark hGz (fun z z' hz hz' => by cases hz; have := (own5.bd z' hz').1; omega)
          go_simp
          refine (specCompleteChart_any (W : Int) (W : Int) A _ c _ xs s _ ownc.rd (Nat.le_refl _)).mono ?_
          rintro e wb ⟨A6, c6, rfl, own6, hb6⟩
          have hGb := grown_trans hGz (below_grown (row := some p) hb6)
          have hcb := hcz.all hb6
          have zb1 := zb0.all hb6
          replace own6 := own6.mono hGz.size
          refine hK.out _ _ (by exact ⟨hGb.cell (a := ⟨w3.heap.size, 0, none⟩) q0 hqp, hGb.cell (a := ⟨w3.heap.size, 1, none⟩) q1 hqp, hGb.cell (a := ⟨w3.heap.size, 2, none⟩) q2 hqp⟩) (fun hHeld => ?_)
          clear hK K
          (try simp only [Act.put, List.getElem_toArray, List.getElem_cons_zero, List.getElem_cons_succ, List.setIfInBounds_toArray, List.set_cons_zero, List.set_cons_succ])
          refine wpAnyH_take (i := 4) (v := ?_) rfl (by kernel_rfl) (by kernel_rfl) (by kernel_rfl) (fun _ _ _ h => h) (Or.inl ⟨by rfl, ?_⟩) (by assumption) ?_
          rotate_left
          · intro w hSw; (try dsimp only at hSw); go_simp; (try with_reducible rfl)
          (try simp only [Act.put, List.getElem_toArray, List.getElem_cons_zero, List.getElem_cons_succ, List.setIfInBounds_toArray, List.set_cons_zero, List.set_cons_succ])
          refine wpAnyH_take (i := 5) (v := ?_) rfl (by kernel_rfl) (by kernel_rfl) (by kernel_rfl) (fun _ _ _ h => h) (Or.inl ⟨by rfl, ?_⟩) (by assumption) ?_
          rotate_left
          · intro w hSw; (try dsimp only at hSw); go_simp; (try with_reducible rfl)
          (try simp only [Act.put, List.getElem_toArray, List.getElem_cons_zero, List.getElem_cons_succ, List.setIfInBounds_toArray, List.set_cons_zero, List.set_cons_succ])
          refine wpAnyH_take (i := 6) (v := ?_) rfl (by kernel_rfl) (by kernel_rfl) (by kernel_rfl) (fun _ _ _ h => h) (Or.inl ⟨by rfl, ?_⟩) (by assumption) ?_
          rotate_left
          · intro w hSw; (try dsimp only at hSw); go_simp; (try with_reducible rfl)
          (try simp only [Act.put, List.getElem_toArray, List.getElem_cons_zero, List.getElem_cons_succ, List.setIfInBounds_toArray, List.set_cons_zero, List.set_cons_succ])
          clear hHeld
          have hpq : p < wa.heap.size := hca.lt
          have zz0 := zb1.cell 0
          have zz1 := zb1.cell 1
          have zz2 := zb1.cell 2
          have zf0 := zb1.frozen 0
          have zf1 := zb1.frozen 1
          have zf2 := zb1.frozen 2
          refine wpAnyH_ready (rs := [8]) (by kernel_rfl) (by simp) ?_
          refine AllReadyH.cons rfl (fun K hK => ?_) AllReadyH.nil
          go_simp
          have hne := row_ne' own6.1 zb1 (by decide)
          have oF := ((own6.far (a := ⟨wa.heap.size, 0, none⟩) hne (.int .i64 (orZero (compOk (W : Int) (W : Int) xs s) (W : Int)))).far (a := ⟨wa.heap.size, 1, none⟩) hne (.int .i64 (orZero (compOk (W : Int) (W : Int) xs s) (W : Int)))).far (a := ⟨wa.heap.size, 2, none⟩) hne (.slice A6 (compX (W : Int) (W : Int) xs s).length c6)
          have zF := Blk.put3 (a' := .int .i64 (orZero (compOk (W : Int) (W : Int) xs s) (W : Int))) (b' := .int .i64 (orZero (compOk (W : Int) (W : Int) xs s) (W : Int))) (c' := .slice A6 (compX (W : Int) (W : Int) xs s).length c6) zb1
          have cF := ((hcb.far (a := ⟨wa.heap.size, 0, none⟩) (by show p < wa.heap.size; omega) (.int .i64 (orZero (compOk (W : Int) (W : Int) xs s) (W : Int)))).far (a := ⟨wa.heap.size, 1, none⟩) (by show p < wa.heap.size; omega) (.int .i64 (orZero (compOk (W : Int) (W : Int) xs s) (W : Int)))).far (a := ⟨wa.heap.size, 2, none⟩) (by show p < wa.heap.size; omega) (.slice A6 (compX (W : Int) (W : Int) xs s).length c6)
          have gF := grown_own hGb ((((Below.refl w5.heap.size _).setCell (p := ⟨wa.heap.size, 0, none⟩) hqq (.int .i64 (orZero (compOk (W : Int) (W : Int) xs s) (W : Int)))).setCell (p := ⟨wa.heap.size, 1, none⟩) hqq (.int .i64 (orZero (compOk (W : Int) (W : Int) xs s) (W : Int)))).setCell (p := ⟨wa.heap.size, 2, none⟩) hqq (.slice A6 (compX (W : Int) (W : Int) xs s).length c6))
          clear zz0 zz1 zz2 zf0 zf1 zf2
          refine hK.out _ _ (by exact ⟨gF.cell (a := ⟨w3.heap.size, 0, none⟩) q0 hqp, gF.cell (a := ⟨w3.heap.size, 1, none⟩) q1 hqp, gF.cell (a := ⟨w3.heap.size, 2, none⟩) q2 hqp⟩) (fun hHeld => ?_)
          clear hK K
          (try simp only [Act.put, List.getElem_toArray, List.getElem_cons_zero, List.getElem_cons_succ, List.setIfInBounds_toArray, List.set_cons_zero, List.set_cons_succ])
          refine wpAnyH_take (i := 9) (v := ?_) rfl (by kernel_rfl) (by kernel_rfl) (by kernel_rfl) (fun _ _ _ h => h) (Or.inl ⟨by rfl, ?_⟩) (by assumption) ?_
          rotate_left
          · intro w hSw; (try dsimp only at hSw); go_simp; (try with_reducible rfl)
          (try simp only [Act.put, List.getElem_toArray, List.getElem_cons_zero, List.getElem_cons_succ, List.setIfInBounds_toArray, List.set_cons_zero, List.set_cons_succ])
          clear hHeld
          refine wpAnyH_done (by kernel_rfl) ?_ _
          refine NoPanic.normal ?_
          go_wp2_with fail
          go_meet
          exact ⟨s, _, A6, c6, rfl, rfl, hqq, zF, oF, cF, gF⟩
      · refine AllReadyH.cons rfl (fun K hK => ?_) AllReadyH.nil
        go_simp
        have hGz := grown_trans hD (below_grown (row := some p) ((Below.refl w5.drew.heap.size w5.drew).alloc (Nat.le_refl _) (.cells #[.int .i64 0, .int .i64 0, .slice none 0 0] 26)))
        have hcz := hcd.all ((Below.refl w5.drew.heap.size w5.drew).alloc (Nat.le_refl _) (.cells #[.int .i64 0, .int .i64 0, .slice none 0 0] 26))
        have zb0 : Blk _ w5.heap.size _ _ := Blk.new w5.drew #[.int .i64 0, .int .i64 0, .slice none 0 0] 26
        have hqq : w5.heap.size ≤ w5.heap.size := Nat.le_refl _
        refine hK.out _ _ (by exact ⟨hGz.cell (a := ⟨w3.heap.size, 0, none⟩) q0 hqp, hGz.cell (a := ⟨w3.heap.size, 1, none⟩) q1 hqp, hGz.cell (a := ⟨w3.heap.size, 2, none⟩) q2 hqp⟩) (fun hHeld => ?_)
        clear hK K
        (try simp only [Act.put, List.getElem_toArray, List.getElem_cons_zero, List.getElem_cons_succ, List.setIfInBounds_toArray, List.set_cons_zero, List.set_cons_succ])
        clear hHeld
        refine wpAnyH_ready (rs := [2]) (by kernel_rfl) (by simp) ?_
        refine AllReadyH.cons rfl (fun K hK => ?_) AllReadyH.nil
        go_simp
        refine (pick_any p (k + 2000) 8 _ hcz (by omega) (by omega) (by omega)).mono ?_
        rintro e wa ⟨s, rfl, _, hca, hga⟩
        have hGa := grown_trans hGz hga
        have zb1 := zb0.mark hga (fun z hz => by cases hz; omega)
        refine hK.out _ _ (by exact ⟨hGa.cell (a := ⟨w3.heap.size, 0, none⟩) q0 hqp, hGa.cell (a := ⟨w3.heap.size, 1, none⟩) q1 hqp, hGa.cell (a := ⟨w3.heap.size, 2, none⟩) q2 hqp⟩) (fun hHeld => ?_)
        clear hK K
        (try simp only [Act.put, List.getElem_toArray, List.getElem_cons_zero, List.getElem_cons_succ, List.setIfInBounds_toArray, List.set_cons_zero, List.set_cons_succ])
        clear hHeld
        refine wpAnyH_ready (rs := [3]) (by kernel_rfl) (by simp) ?_
        refine AllReadyH.cons rfl (fun K hK => ?_) AllReadyH.nil
        have ownc := own5.mark hGa (fun z z' hz hz' => by cases hz; have := (own5.bd z' hz').1; omega)
        go_simp
        refine (specCompleteChart_any (W : Int) (W : Int) A _ c _ xs s _ ownc.rd (Nat.le_refl _)).mono ?_
        rintro e wb ⟨A6, c6, rfl, own6, hb6⟩
        have hGb := grown_trans hGa (below_grown (row := some p) hb6)
        have hcb := hca.all hb6
        have zb2 := zb1.all hb6
        replace own6 := own6.mono hGa.size
        refine hK.out _ _ (by exact ⟨hGb.cell (a := ⟨w3.heap.size, 0, none⟩) q0 hqp, hGb.cell (a := ⟨w3.heap.size, 1, none⟩) q1 hqp, hGb.cell (a := ⟨w3.heap.size, 2, none⟩) q2 hqp⟩) (fun hHeld => ?_)
        clear hK K
        (try simp only [Act.put, List.getElem_toArray, List.getElem_cons_zero, List.getElem_cons_succ, List.setIfInBounds_toArray, List.set_cons_zero, List.set_cons_succ])
        refine wpAnyH_take (i := 4) (v := ?_) rfl (by kernel_rfl) (by kernel_rfl) (by kernel_rfl) (fun _ _ _ h => h) (Or.inl ⟨by rfl, ?_⟩) (by assumption) ?_
        rotate_left
        · intro w hSw; (try dsimp only at hSw); go_simp; (try with_reducible rfl)
        (try simp only [Act.put, List.getElem_toArray, List.getElem_cons_zero, List.getElem_cons_succ, List.setIfInBounds_toArray, List.set_cons_zero, List.set_cons_succ])
        refine wpAnyH_take (i := 5) (v := ?_) rfl (by kernel_rfl) (by kernel_rfl) (by kernel_rfl) (fun _ _ _ h => h) (Or.inl ⟨by rfl, ?_⟩) (by assumption) ?_
        rotate_left
        · intro w hSw; (try dsimp only at hSw); go_simp; (try with_reducible rfl)
        (try simp only [Act.put, List.getElem_toArray, List.getElem_cons_zero, List.getElem_cons_succ, List.setIfInBounds_toArray, List.set_cons_zero, List.set_cons_succ])
        refine wpAnyH_take (i := 6) (v := ?_) rfl (by kernel_rfl) (by kernel_rfl) (by kernel_rfl) (fun _ _ _ h => h) (Or.inl ⟨by rfl, ?_⟩) (by assumption) ?_
        rotate_left
        · intro w hSw; (try dsimp only at hSw); go_simp; (try with_reducible rfl)
        (try simp only [Act.put, List.getElem_toArray, List.getElem_cons_zero, List.getElem_cons_succ, List.setIfInBounds_toArray, List.set_cons_zero, List.set_cons_succ])
        clear hHeld
        have zz0 := zb2.cell 0
        have zz1 := zb2.cell 1
        have zz2 := zb2.cell 2
        have zf0 := zb2.frozen 0
        have zf1 := zb2.frozen 1
        have zf2 := zb2.frozen 2
        refine wpAnyH_ready (rs := [8]) (by kernel_rfl) (by simp) ?_
        refine AllReadyH.cons rfl (fun K hK => ?_) AllReadyH.nil
        go_simp
        have hne := row_ne' own6.1 zb2 (by decide)
        have oF := ((own6.far (a := ⟨w5.heap.size, 0, none⟩) hne (.int .i64 (orZero (compOk (W : Int) (W : Int) xs s) (W : Int)))).far (a := ⟨w5.heap.size, 1, none⟩) hne (.int .i64 (orZero (compOk (W : Int) (W : Int) xs s) (W : Int)))).far (a := ⟨w5.heap.size, 2, none⟩) hne (.slice A6 (compX (W : Int) (W : Int) xs s).length c6)
        have zF := Blk.put3 (a' := .int .i64 (orZero (compOk (W : Int) (W : Int) xs s) (W : Int))) (b' := .int .i64 (orZero (compOk (W : Int) (W : Int) xs s) (W : Int))) (c' := .slice A6 (compX (W : Int) (W : Int) xs s).length c6) zb2
        have cF := ((hcb.far (a := ⟨w5.heap.size, 0, none⟩) (by show p < w5.heap.size; omega) (.int .i64 (orZero (compOk (W : Int) (W : Int) xs s) (W : Int)))).far (a := ⟨w5.heap.size, 1, none⟩) (by show p < w5.heap.size; omega) (.int .i64 (orZero (compOk (W : Int) (W : Int) xs s) (W : Int)))).far (a := ⟨w5.heap.size, 2, none⟩) (by show p < w5.heap.size; omega) (.slice A6 (compX (W : Int) (W : Int) xs s).length c6)
        have gF := grown_own hGb ((((Below.refl w5.heap.size _).setCell (p := ⟨w5.heap.size, 0, none⟩) hqq (.int .i64 (orZero (compOk (W : Int) (W : Int) xs s) (W : Int)))).setCell (p := ⟨w5.heap.size, 1, none⟩) hqq (.int .i64 (orZero (compOk (W : Int) (W : Int) xs s) (W : Int)))).setCell (p := ⟨w5.heap.size, 2, none⟩) hqq (.slice A6 (compX (W : Int) (W : Int) xs s).length c6))
        clear zz0 zz1 zz2 zf0 zf1 zf2
        refine hK.out _ _ (by exact ⟨gF.cell (a := ⟨w3.heap.size, 0, none⟩) q0 hqp, gF.cell (a := ⟨w3.heap.size, 1, none⟩) q1 hqp, gF.cell (a := ⟨w3.heap.size, 2, none⟩) q2 hqp⟩) (fun hHeld => ?_)
        clear hK K
        (try simp only [Act.put, List.getElem_toArray, List.getElem_cons_zero, List.getElem_cons_succ, List.setIfInBounds_toArray, List.set_cons_zero, List.set_cons_succ])
        refine wpAnyH_take (i := 9) (v := ?_) rfl (by kernel_rfl) (by kernel_rfl) (by kernel_rfl) (fun _ _ _ h => h) (Or.inl ⟨by rfl, ?_⟩) (by assumption) ?_
        rotate_left
        · intro w hSw; (try dsimp only at hSw); go_simp; (try with_reducible rfl)
        (try simp only [Act.put, List.getElem_toArray, List.getElem_cons_zero, List.getElem_cons_succ, List.setIfInBounds_toArray, List.set_cons_zero, List.set_cons_succ])
        clear hHeld
        refine wpAnyH_done (by kernel_rfl) ?_ _
        refine NoPanic.normal ?_
        go_wp2_with fail
        go_meet
        exact ⟨s, _, A6, c6, rfl, rfl, hqq, zF, oF, cF, gF⟩
    case rest =>
      obtain ⟨s, Q, A6, c6, rfl, rfl, hQ, zQ, own6, hc6, hG6⟩ := hcut
      have hsm := compX_small (W : Int) (W : Int) xs s hsmall.2.1 hsmall.2.2
      have rT := r5.mark hG6 (fun z hz => by cases hz; omega)
      have qT := q5.mark hG6 (fun z hz => by cases hz; omega)
      have ownT := own5.mark hG6 (fun z z' hz hz' => by cases hz; have := (own5.bd z' hz').1; omega)
      have HGT := Lib.hid (grown_trans HG5.out hG6)
      replace own6 := own6.mono hwS
      clear hG6 q5 r5 own5 hc5 HG5 q0 q1 q2
      by_cases hok : (compOk (W : Int) (W : Int) xs s) = true
      · rw [hok] at hsm zQ ⊢
        have hQz := zQ.lt
        have hqz2 := qT.lt
        go_wp2_with fail
        refine (one_any p (k + 2000 + 2) 2 _ hc6 (by omega) (by omega) (by omega)).mono ?_
        rintro e wu ⟨d, rfl, hcu, hgu⟩
        have ru := rT.mark hgu (fun z hz => by cases hz; omega)
        have qu := qT.mark hgu (fun z hz => by cases hz; omega)
        have zu := zQ.mark hgu (fun z hz => by cases hz; omega)
        have ownu := ownT.mark hgu (fun z z' hz hz' => by cases hz; have := (ownT.bd z' hz').1; omega)
        have own7 := own6.mark hgu (fun z z' hz hz' => by cases hz; have := (own6.bd z' hz').1; omega)
        have HGU := Lib.hid (grown_trans HGT.out hgu)
        clear hgu rT qT zQ ownT own6 hc6 HGT hok
        cases d
        · skip
          have f0 := qu.cell 0
          have f1 := qu.cell 1
          have f2 := qu.cell 2
          have g0 := ru.cell 0
          have g1 := ru.cell 1
          have g2 := ru.cell 2
          have z0 := ru.frozen 0
          have z1 := ru.frozen 1
          have z2 := ru.frozen 2
          have F := fin3 (p := w.heap.size) (w0 := wu) (B := w.heap.size) (a := .int .i64 (W : Int)) (b := .int .i64 (W : Int)) (c := .slice A xs.length c) ownu (row_ne' ownu.1 ru (by decide)) (Below.refl _ _) (Nat.le_refl _)
          have hcF := (hcu.below F.2 hpw).more (show _ ≤ k + 3000 by omega)
          have hGF := grown_own HGU.out F.2
          have F1 := F.1
          clear F
          go_wp2
          exact bodyPost_ret (v := chartV (W : Int) (W : Int) (.slice A xs.length c)) (by simp [results, Try.results71, go_sem, g0, g1, g2]) rfl ⟨(W : Int), (W : Int), A, c, xs, rfl, hsmall, F1, hcF, hGF⟩
        · skip
          have f0 := zu.cell 0
          have f1 := zu.cell 1
          have f2 := zu.cell 2
          have g0 := ru.cell 0
          have g1 := ru.cell 1
          have g2 := ru.cell 2
          have z0 := ru.frozen 0
          have z1 := ru.frozen 1
          have z2 := ru.frozen 2
          have F := fin3 (p := w.heap.size) (w0 := wu) (B := w.heap.size) (a := .int .i64 (orZero true (W : Int))) (b := .int .i64 (orZero true (W : Int))) (c := .slice A6 (compX (W : Int) (W : Int) xs s).length c6) own7 (row_ne' own7.1 ru (by decide)) (Below.refl _ _) (Nat.le_refl _)
          have hcF := (hcu.below F.2 hpw).more (show _ ≤ k + 3000 by omega)
          have hGF := grown_own HGU.out F.2
          have F1 := F.1
          clear F
          go_wp2
          exact bodyPost_ret (v := chartV (orZero true (W : Int)) (orZero true (W : Int)) (.slice A6 (compX (W : Int) (W : Int) xs s).length c6)) (by simp [results, Try.results71, go_sem, g0, g1, g2]) rfl ⟨(orZero true (W : Int)), (orZero true (W : Int)), A6, c6, (compX (W : Int) (W : Int) xs s), rfl, hsm, F1, hcF, hGF⟩
      · rw [not_false hok]
        have hqz2 := qT.lt
        have f0 := qT.cell 0
        have f1 := qT.cell 1
        have f2 := qT.cell 2
        have g0 := rT.cell 0
        have g1 := rT.cell 1
        have g2 := rT.cell 2
        have z0 := rT.frozen 0
        have z1 := rT.frozen 1
        have z2 := rT.frozen 2
        have F := fin3 (p := w.heap.size) (w0 := wc) (B := w.heap.size) (a := .int .i64 (W : Int)) (b := .int .i64 (W : Int)) (c := .slice A xs.length c) ownT (row_ne' ownT.1 rT (by decide)) (Below.refl _ _) (Nat.le_refl _)
        have hcF := (hc6.below F.2 hpw).more (show _ ≤ k + 3000 by omega)
        have hGF := grown_own HGT.out F.2
        have F1 := F.1
        clear F
        go_wp2
        exact bodyPost_ret (v := chartV (W : Int) (W : Int) (.slice A xs.length c)) (by simp [results, Try.results71, go_sem, g0, g1, g2]) rfl ⟨(W : Int), (W : Int), A, c, xs, rfl, hsmall, F1, hcF, hGF⟩
  · go_wp2_with fail
    refine (chart_any p (k + 200 + 2) _ hc5 (by omega)).mono ?_
    rintro e w6 ⟨V, U, A6', c6', ys, rfl, hsm6, own6', hc6', hg6'⟩
    have r6 := r5.mark hg6' (fun z hz => by cases hz; omega)
    have q6 := q5.mark hg6' (fun z hz => by cases hz; omega)
    have HG6 := Lib.hid (grown_trans HG5.out hg6')
    replace own6' := own6'.mono hz5
    replace hc6' := hc6'.more (show _ ≤ k + 2000 by omega)
    have y0 := q6.cell 0
    have y1 := q6.cell 1
    have y2 := q6.cell 2
    have v0 := q6.frozen 0
    have v1 := q6.frozen 1
    have v2 := q6.frozen 2
    have hq6z := q6.lt
    clear hc5 hg6' r5 q5 HG5 own5
    have q7 := Blk.put3 (a' := .int .i64 V) (b' := .int .i64 U) (c' := .slice A6' ys.length c6') q6
    have F7 := fin3 (p := w3.heap.size) (w0 := w6) (B := w.heap.size) (a := .int .i64 V) (b := .int .i64 U) (c := .slice A6' ys.length c6') own6' (row_ne' own6'.1 q6 (by decide)) (Below.refl _ _) (by omega)
    have r7 := r6.far3 (p := w3.heap.size) (a' := .int .i64 V) (b' := .int .i64 U) (c' := .slice A6' ys.length c6') (show w.heap.size ≠ w3.heap.size by have := r6.lt; omega)
    have hc7 := hc6'.below F7.2 hpw
    have HG7 := Lib.hid (grown_own HG6.out F7.2)
    have own7' := F7.1
    clear F7 r6 q6 HG6 own6' hc6'
    go_wp2_with fail
    generalize ((w6.setCell ⟨w3.heap.size, 0, none⟩ (.int .i64 V)).setCell ⟨w3.heap.size, 1, none⟩ (.int .i64 U)).setCell ⟨w3.heap.size, 2, none⟩ (.slice A6' ys.length c6') = w7 at *
    clear y0 y1 y2 v0 v1 v2 hq6z
    have hwS := HG7.out.size
    have hpS := hc7.lt
    have q0 := q7.cell 0
    have q1 := q7.cell 1
    have q2 := q7.cell 2
    have hqp : some w3.heap.size ≠ some p := by simp; omega
    have hqz := q7.lt
    go_wp2_with fail
    go_cut [5, 6] (fun s5 s6 wx => ∃ (s : Int) (Q : Nat) (A6 : Option Addr) (c6 : Nat), s5 = .pointer (some ⟨Q, 0, none⟩) ∧ s6 = .bool (compOk V U ys s) ∧ w7.heap.size ≤ Q ∧ Blk wx Q 26 #[.int .i64 (orZero (compOk V U ys s) V), .int .i64 (orZero (compOk V U ys s) U), .slice A6 (compX V U ys s).length c6] ∧ Own wx w7.heap.size (.slice A6 (compX V U ys s).length c6) (compX V U ys s) ∧ Cur wx p (k + 2000 + 2) ∧ w7.grownBy wx (some p))
    case first =>
      refine wp_region_noPanic ?_
      refine wp_region_held_drew (S := (fun w' => w'.cell? ⟨w3.heap.size, 0, none⟩ = some (.int .i64 V) ∧ w'.cell? ⟨w3.heap.size, 1, none⟩ = some (.int .i64 U) ∧ w'.cell? ⟨w3.heap.size, 2, none⟩ = some (.slice A6' ys.length c6'))) (by kernel_rfl) (by go_keep) (fun hHeld => ?_)
      refine wpAnyH_take (i := 0) (v := ?_) rfl (by kernel_rfl) (by kernel_rfl) (by kernel_rfl) (fun _ _ _ h => h) (Or.inl ⟨by rfl, ?_⟩) (by assumption) ?_
      rotate_left
      · intro w hSw; (try dsimp only at hSw); go_simp; (try with_reducible rfl)
      (try simp only [Act.put, List.getElem_toArray, List.getElem_cons_zero, List.setIfInBounds_toArray, List.set_cons_zero, List.set_cons_succ])
      refine wpAnyH_take (i := 1) (v := ?_) rfl (by kernel_rfl) (by kernel_rfl) (by kernel_rfl) (fun _ _ _ h => h) (Or.inl ⟨by rfl, ?_⟩) (by assumption) ?_
      rotate_left
      · intro w hSw; (try dsimp only at hSw); go_simp; (try with_reducible rfl)
      (try simp only [Act.put, List.getElem_toArray, List.getElem_cons_zero, List.getElem_cons_succ, List.setIfInBounds_toArray, List.set_cons_zero, List.set_cons_succ])
      clear hHeld
      have hD : w7.grownBy w7.drew (some p) := drew_grown _ _
      have hcd := cur_drew hc7
      refine wpAnyH_ready (rs := [2, 7]) (by kernel_rfl) (by simp) ?_
      refine AllReadyH.cons rfl (fun K hK => ?_) ?_
      · skip
        go_simp
        refine (pick_any p (k + 2000) 8 _ hcd (by omega) (by omega) (by omega)).mono ?_
        rintro e wa ⟨s, rfl, _, hca, hga⟩
        have hGa := grown_trans hD hga
        refine hK.out _ _ (by exact ⟨hGa.cell (a := ⟨w3.heap.size, 0, none⟩) q0 hqp, hGa.cell (a := ⟨w3.heap.size, 1, none⟩) q1 hqp, hGa.cell (a := ⟨w3.heap.size, 2, none⟩) q2 hqp⟩) (fun hHeld => ?_)
        clear hK K
        (try simp only [Act.put, List.getElem_toArray, List.getElem_cons_zero, List.getElem_cons_succ, List.setIfInBounds_toArray, List.set_cons_zero, List.set_cons_succ])
        clear hHeld
        refine wpAnyH_ready (rs := [3, 7]) (by kernel_rfl) (by simp) ?_
        refine AllReadyH.cons rfl (fun K hK => ?_) ?_
        · skip
          have ownc := own7'.mark hGa (fun z z' hz hz' => by cases hz; have := (own7'.bd z' hz').1; omega)
          go_simp
          refine (specCompleteChart_any V U A6' _ c6' _ ys s _ ownc.rd (Nat.le_refl _)).mono ?_
          rintro e wb ⟨A6, c6, rfl, own6, hb6⟩
          have hGb := grown_trans hGa (below_grown (row := some p) hb6)
          have hcb := hca.all hb6
          replace own6 := own6.mono hGa.size
          refine hK.out _ _ (by exact ⟨hGb.cell (a := ⟨w3.heap.size, 0, none⟩) q0 hqp, hGb.cell (a := ⟨w3.heap.size, 1, none⟩) q1 hqp, hGb.cell (a := ⟨w3.heap.size, 2, none⟩) q2 hqp⟩) (fun hHeld => ?_)
          clear hK K
          (try simp only [Act.put, List.getElem_toArray, List.getElem_cons_zero, List.getElem_cons_succ, List.setIfInBounds_toArray, List.set_cons_zero, List.set_cons_succ])
          refine wpAnyH_take (i := 4) (v := ?_) rfl (by kernel_rfl) (by kernel_rfl) (by kernel_rfl) (fun _ _ _ h => h) (Or.inl ⟨by rfl, ?_⟩) (by assumption) ?_
          rotate_left
          · intro w hSw; (try dsimp only at hSw); go_simp; (try with_reducible rfl)
          (try simp only [Act.put, List.getElem_toArray, List.getElem_cons_zero, List.getElem_cons_succ, List.setIfInBounds_toArray, List.set_cons_zero, List.set_cons_succ])
          refine wpAnyH_take (i := 5) (v := ?_) rfl (by kernel_rfl) (by kernel_rfl) (by kernel_rfl) (fun _ _ _ h => h) (Or.inl ⟨by rfl, ?_⟩) (by assumption) ?_
          rotate_left
          · intro w hSw; (try dsimp only at hSw); go_simp; (try with_reducible rfl)
          (try simp only [Act.put, List.getElem_toArray, List.getElem_cons_zero, List.getElem_cons_succ, List.setIfInBounds_toArray, List.set_cons_zero, List.set_cons_succ])
          refine wpAnyH_take (i := 6) (v := ?_) rfl (by kernel_rfl) (by kernel_rfl) (by kernel_rfl) (fun _ _ _ h => h) (Or.inl ⟨by rfl, ?_⟩) (by assumption) ?_
          rotate_left
          · intro w hSw; (try dsimp only at hSw); go_simp; (try with_reducible rfl)
          (try simp only [Act.put, List.getElem_toArray, List.getElem_cons_zero, List.getElem_cons_succ, List.setIfInBounds_toArray, List.set_cons_zero, List.set_cons_succ])
          clear hHeld
          refine wpAnyH_ready (rs := [7]) (by kernel_rfl) (by simp) ?_
          refine AllReadyH.cons rfl (fun K hK => ?_) AllReadyH.nil
          go_simp
          have hGx := grown_trans hGb (below_grown (row := some p) ((Below.refl wb.heap.size wb).alloc (Nat.le_refl _) (.cells #[.int .i64 0, .int .i64 0, .slice none 0 0] 26)))
          refine hK.out _ _ (by exact ⟨hGx.cell (a := ⟨w3.heap.size, 0, none⟩) q0 hqp, hGx.cell (a := ⟨w3.heap.size, 1, none⟩) q1 hqp, hGx.cell (a := ⟨w3.heap.size, 2, none⟩) q2 hqp⟩) (fun hHeld => ?_)
          clear hK K
          (try simp only [Act.put, List.getElem_toArray, List.getElem_cons_zero, List.getElem_cons_succ, List.setIfInBounds_toArray, List.set_cons_zero, List.set_cons_succ])
          clear hHeld
          refine wpAnyH_ready (rs := [8]) (by kernel_rfl) (by simp) ?_
          refine AllReadyH.cons rfl (fun K hK => ?_) AllReadyH.nil
          go_simp
          have hGy := grown_trans hGb (below_grown (row := some p) ((Below.refl wb.heap.size wb).alloc (Nat.le_refl _) (.cells #[.int .i64 (orZero (compOk V U ys s) V), .int .i64 (orZero (compOk V U ys s) U), .slice A6 (compX V U ys s).length c6] 26)))
          refine hK.out _ _ (by exact ⟨hGy.cell (a := ⟨w3.heap.size, 0, none⟩) q0 hqp, hGy.cell (a := ⟨w3.heap.size, 1, none⟩) q1 hqp, hGy.cell (a := ⟨w3.heap.size, 2, none⟩) q2 hqp⟩) (fun hHeld => ?_)
          clear hK K
          (try simp only [Act.put, List.getElem_toArray, List.getElem_cons_zero, List.getElem_cons_succ, List.setIfInBounds_toArray, List.set_cons_zero, List.set_cons_succ])
          refine wpAnyH_take (i := 9) (v := ?_) rfl (by kernel_rfl) (by kernel_rfl) (by kernel_rfl) (fun _ _ _ h => h) (Or.inl ⟨by rfl, ?_⟩) (by assumption) ?_
          rotate_left
          · intro w hSw; (try dsimp only at hSw); go_simp; (try with_reducible rfl)
          (try simp only [Act.put, List.getElem_toArray, List.getElem_cons_zero, List.getElem_cons_succ, List.setIfInBounds_toArray, List.set_cons_zero, List.set_cons_succ])
          clear hHeld
          refine wpAnyH_done (by kernel_rfl) ?_ _
          refine NoPanic.normal ?_
          go_wp2_with fail
          go_meet
          exact ⟨s, _, A6, c6, rfl, rfl, hGb.size, Blk.new wb _ _, own6.alloc _, hcb.all ((Below.refl _ _).alloc (Nat.le_refl _) _), hGy⟩
        · refine AllReadyH.cons rfl (fun K hK => ?_) AllReadyH.nil
          go_simp
          have hGz := grown_trans hGa (below_grown (row := some p) ((Below.refl wa.heap.size wa).alloc (Nat.le_refl _) (.cells #[.int .i64 0, .int .i64 0, .slice none 0 0] 26)))
          have hcz := hca.all ((Below.refl wa.heap.size wa).alloc (Nat.le_refl _) (.cells #[.int .i64 0, .int .i64 0, .slice none 0 0] 26))
          have zb0 := Blk.new wa #[.int .i64 0, .int .i64 0, .slice none 0 0] 26
          have hqq : w7.heap.size ≤ wa.heap.size := hGa.size
          refine hK.out _ _ (by exact ⟨hGz.cell (a := ⟨w3.heap.size, 0, none⟩) q0 hqp, hGz.cell (a := ⟨w3.heap.size, 1, none⟩) q1 hqp, hGz.cell (a := ⟨w3.heap.size, 2, none⟩) q2 hqp⟩) (fun hHeld => ?_)
          clear hK K
          (try simp only [Act.put, List.getElem_toArray, List.getElem_cons_zero, List.getElem_cons_succ, List.setIfInBounds_toArray, List.set_cons_zero, List.set_cons_succ])
          clear hHeld
          refine wpAnyH_ready (rs := [3]) (by kernel_rfl) (by simp) ?_
          refine AllReadyH.cons rfl (fun K hK => ?_) AllReadyH.nil
          have ownc := own7'.mark hGz (fun z z' hz hz' => by cases hz; have := (own7'.bd z' hz').1; omega)
          go_simp
          refine (specCompleteChart_any V U A6' _ c6' _ ys s _ ownc.rd (Nat.le_refl _)).mono ?_
          rintro e wb ⟨A6, c6, rfl, own6, hb6⟩
          have hGb := grown_trans hGz (below_grown (row := some p) hb6)
          have hcb := hcz.all hb6
          have zb1 := zb0.all hb6
          replace own6 := own6.mono hGz.size
          refine hK.out _ _ (by exact ⟨hGb.cell (a := ⟨w3.heap.size, 0, none⟩) q0 hqp, hGb.cell (a := ⟨w3.heap.size, 1, none⟩) q1 hqp, hGb.cell (a := ⟨w3.heap.size, 2, none⟩) q2 hqp⟩) (fun hHeld => ?_)
          clear hK K
          (try simp only [Act.put, List.getElem_toArray, List.getElem_cons_zero, List.getElem_cons_succ, List.setIfInBounds_toArray, List.set_cons_zero, List.set_cons_succ])
          refine wpAnyH_take (i := 4) (v := ?_) rfl (by kernel_rfl) (by kernel_rfl) (by kernel_rfl) (fun _ _ _ h => h) (Or.inl ⟨by rfl, ?_⟩) (by assumption) ?_
          rotate_left
          · intro w hSw; (try dsimp only at hSw); go_simp; (try with_reducible rfl)
          (try simp only [Act.put, List.getElem_toArray, List.getElem_cons_zero, List.getElem_cons_succ, List.setIfInBounds_toArray, List.set_cons_zero, List.set_cons_succ])
          refine wpAnyH_take (i := 5) (v := ?_) rfl (by kernel_rfl) (by kernel_rfl) (by kernel_rfl) (fun _ _ _ h => h) (Or.inl ⟨by rfl, ?_⟩) (by assumption) ?_
          rotate_left
          · intro w hSw; (try dsimp only at hSw); go_simp; (try with_reducible rfl)
          (try simp only [Act.put, List.getElem_toArray, List.getElem_cons_zero, List.getElem_cons_succ, List.setIfInBounds_toArray, List.set_cons_zero, List.set_cons_succ])
          refine wpAnyH_take (i := 6) (v := ?_) rfl (by kernel_rfl) (by kernel_rfl) (by kernel_rfl) (fun _ _ _ h => h) (Or.inl ⟨by rfl, ?_⟩) (by assumption) ?_
          rotate_left
          · intro w hSw; (try dsimp only at hSw); go_simp; (try with_reducible rfl)
          (try simp only [Act.put, List.getElem_toArray, List.getElem_cons_zero, List.getElem_cons_succ, List.setIfInBounds_toArray, List.set_cons_zero, List.set_cons_succ])
          clear hHeld
          have hpq : p < wa.heap.size := hca.lt
          have zz0 := zb1.cell 0
          have zz1 := zb1.cell 1
          have zz2 := zb1.cell 2
          have zf0 := zb1.frozen 0
          have zf1 := zb1.frozen 1
          have zf2 := zb1.frozen 2
          refine wpAnyH_ready (rs := [8]) (by kernel_rfl) (by simp) ?_
          refine AllReadyH.cons rfl (fun K hK => ?_) AllReadyH.nil
          go_simp
          have hne := row_ne' own6.1 zb1 (by decide)
          have oF := ((own6.far (a := ⟨wa.heap.size, 0, none⟩) hne (.int .i64 (orZero (compOk V U ys s) V))).far (a := ⟨wa.heap.size, 1, none⟩) hne (.int .i64 (orZero (compOk V U ys s) U))).far (a := ⟨wa.heap.size, 2, none⟩) hne (.slice A6 (compX V U ys s).length c6)
          have zF := Blk.put3 (a' := .int .i64 (orZero (compOk V U ys s) V)) (b' := .int .i64 (orZero (compOk V U ys s) U)) (c' := .slice A6 (compX V U ys s).length c6) zb1
          have cF := ((hcb.far (a := ⟨wa.heap.size, 0, none⟩) (by show p < wa.heap.size; omega) (.int .i64 (orZero (compOk V U ys s) V))).far (a := ⟨wa.heap.size, 1, none⟩) (by show p < wa.heap.size; omega) (.int .i64 (orZero (compOk V U ys s) U))).far (a := ⟨wa.heap.size, 2, none⟩) (by show p < wa.heap.size; omega) (.slice A6 (compX V U ys s).length c6)
          have gF := grown_own hGb ((((Below.refl w7.heap.size _).setCell (p := ⟨wa.heap.size, 0, none⟩) hqq (.int .i64 (orZero (compOk V U ys s) V))).setCell (p := ⟨wa.heap.size, 1, none⟩) hqq (.int .i64 (orZero (compOk V U ys s) U))).setCell (p := ⟨wa.heap.size, 2, none⟩) hqq (.slice A6 (compX V U ys s).length c6))
          clear zz0 zz1 zz2 zf0 zf1 zf2
          refine hK.out _ _ (by exact ⟨gF.cell (a := ⟨w3.heap.size, 0, none⟩) q0 hqp, gF.cell (a := ⟨w3.heap.size, 1, none⟩) q1 hqp, gF.cell (a := ⟨w3.heap.size, 2, none⟩) q2 hqp⟩) (fun hHeld => ?_)
          clear hK K
          (try simp only [Act.put, List.getElem_toArray, List.getElem_cons_zero, List.getElem_cons_succ, List.setIfInBounds_toArray, List.set_cons_zero, List.set_cons_succ])
          refine wpAnyH_take (i := 9) (v := ?_) rfl (by kernel_rfl) (by kernel_rfl) (by kernel_rfl) (fun _ _ _ h => h) (Or.inl ⟨by rfl, ?_⟩) (by assumption) ?_
          rotate_left
          · intro w hSw; (try dsimp only at hSw); go_simp; (try with_reducible rfl)
          (try simp only [Act.put, List.getElem_toArray, List.getElem_cons_zero, List.getElem_cons_succ, List.setIfInBounds_toArray, List.set_cons_zero, List.set_cons_succ])
          clear hHeld
          refine wpAnyH_done (by kernel_rfl) ?_ _
          refine NoPanic.normal ?_
          go_wp2_with fail
          go_meet
          exact ⟨s, _, A6, c6, rfl, rfl, hqq, zF, oF, cF, gF⟩
      · refine AllReadyH.cons rfl (fun K hK => ?_) AllReadyH.nil
        go_simp
        have hGz := grown_trans hD (below_grown (row := some p) ((Below.refl w7.drew.heap.size w7.drew).alloc (Nat.le_refl _) (.cells #[.int .i64 0, .int .i64 0, .slice none 0 0] 26)))
        have hcz := hcd.all ((Below.refl w7.drew.heap.size w7.drew).alloc (Nat.le_refl _) (.cells #[.int .i64 0, .int .i64 0, .slice none 0 0] 26))
        have zb0 : Blk _ w7.heap.size _ _ := Blk.new w7.drew #[.int .i64 0, .int .i64 0, .slice none 0 0] 26
        have hqq : w7.heap.size ≤ w7.heap.size := Nat.le_refl _
        refine hK.out _ _ (by exact ⟨hGz.cell (a := ⟨w3.heap.size, 0, none⟩) q0 hqp, hGz.cell (a := ⟨w3.heap.size, 1, none⟩) q1 hqp, hGz.cell (a := ⟨w3.heap.size, 2, none⟩) q2 hqp⟩) (fun hHeld => ?_)
        clear hK K
        (try simp only [Act.put, List.getElem_toArray, List.getElem_cons_zero, List.getElem_cons_succ, List.setIfInBounds_toArray, List.set_cons_zero, List.set_cons_succ])
        clear hHeld
        refine wpAnyH_ready (rs := [2]) (by kernel_rfl) (by simp) ?_
        refine AllReadyH.cons rfl (fun K hK => ?_) AllReadyH.nil
        go_simp
        refine (pick_any p (k + 2000) 8 _ hcz (by omega) (by omega) (by omega)).mono ?_
        rintro e wa ⟨s, rfl, _, hca, hga⟩
        have hGa := grown_trans hGz hga
        have zb1 := zb0.mark hga (fun z hz => by cases hz; omega)
        refine hK.out _ _ (by exact ⟨hGa.cell (a := ⟨w3.heap.size, 0, none⟩) q0 hqp, hGa.cell (a := ⟨w3.heap.size, 1, none⟩) q1 hqp, hGa.cell (a := ⟨w3.heap.size, 2, none⟩) q2 hqp⟩) (fun hHeld => ?_)
        clear hK K
        (try simp only [Act.put, List.getElem_toArray, List.getElem_cons_zero, List.getElem_cons_succ, List.setIfInBounds_toArray, List.set_cons_zero, List.set_cons_succ])
        clear hHeld
        refine wpAnyH_ready (rs := [3]) (by kernel_rfl) (by simp) ?_
        refine AllReadyH.cons rfl (fun K hK => ?_) AllReadyH.nil
        have ownc := own7'.mark hGa (fun z z' hz hz' => by cases hz; have := (own7'.bd z' hz').1; omega)
        go_simp
        refine (specCompleteChart_any V U A6' _ c6' _ ys s _ ownc.rd (Nat.le_refl _)).mono ?_
        rintro e wb ⟨A6, c6, rfl, own6, hb6⟩
        have hGb := grown_trans hGa (below_grown (row := some p) hb6)
        have hcb := hca.all hb6
        have zb2 := zb1.all hb6
        replace own6 := own6.mono hGa.size
        refine hK.out _ _ (by exact ⟨hGb.cell (a := ⟨w3.heap.size, 0, none⟩) q0 hqp, hGb.cell (a := ⟨w3.heap.size, 1, none⟩) q1 hqp, hGb.cell (a := ⟨w3.heap.size, 2, none⟩) q2 hqp⟩) (fun hHeld => ?_)
        clear hK K
        (try simp only [Act.put, List.getElem_toArray, List.getElem_cons_zero, List.getElem_cons_succ, List.setIfInBounds_toArray, List.set_cons_zero, List.set_cons_succ])
        refine wpAnyH_take (i := 4) (v := ?_) rfl (by kernel_rfl) (by kernel_rfl) (by kernel_rfl) (fun _ _ _ h => h) (Or.inl ⟨by rfl, ?_⟩) (by assumption) ?_
        rotate_left
        · intro w hSw; (try dsimp only at hSw); go_simp; (try with_reducible rfl)
        (try simp only [Act.put, List.getElem_toArray, List.getElem_cons_zero, List.getElem_cons_succ, List.setIfInBounds_toArray, List.set_cons_zero, List.set_cons_succ])
        refine wpAnyH_take (i := 5) (v := ?_) rfl (by kernel_rfl) (by kernel_rfl) (by kernel_rfl) (fun _ _ _ h => h) (Or.inl ⟨by rfl, ?_⟩) (by assumption) ?_
        rotate_left
        · intro w hSw; (try dsimp only at hSw); go_simp; (try with_reducible rfl)
        (try simp only [Act.put, List.getElem_toArray, List.getElem_cons_zero, List.getElem_cons_succ, List.setIfInBounds_toArray, List.set_cons_zero, List.set_cons_succ])
        refine wpAnyH_take (i := 6) (v := ?_) rfl (by kernel_rfl) (by kernel_rfl) (by kernel_rfl) (fun _ _ _ h => h) (Or.inl ⟨by rfl, ?_⟩) (by assumption) ?_
        rotate_left
        · intro w hSw; (try dsimp only at hSw); go_simp; (try with_reducible rfl)
        (try simp only [Act.put, List.getElem_toArray, List.getElem_cons_zero, List.getElem_cons_succ, List.setIfInBounds_toArray, List.set_cons_zero, List.set_cons_succ])
        clear hHeld
        have zz0 := zb2.cell 0
        have zz1 := zb2.cell 1
        have zz2 := zb2.cell 2
        have zf0 := zb2.frozen 0
        have zf1 := zb2.frozen 1
        have zf2 := zb2.frozen 2
        refine wpAnyH_ready (rs := [8]) (by kernel_rfl) (by simp) ?_
        refine AllReadyH.cons rfl (fun K hK => ?_) AllReadyH.nil
        go_simp
        have hne := row_ne' own6.1 zb2 (by decide)
        have oF := ((own6.far (a := ⟨w7.heap.size, 0, none⟩) hne (.int .i64 (orZero (compOk V U ys s) V))).far (a := ⟨w7.heap.size, 1, none⟩) hne (.int .i64 (orZero (compOk V U ys s) U))).far (a := ⟨w7.heap.size, 2, none⟩) hne (.slice A6 (compX V U ys s).length c6)
        have zF := Blk.put3 (a' := .int .i64 (orZero (compOk V U ys s) V)) (b' := .int .i64 (orZero (compOk V U ys s) U)) (c' := .slice A6 (compX V U ys s).length c6) zb2
        have cF := ((hcb.far (a := ⟨w7.heap.size, 0, none⟩) (by show p < w7.heap.size; omega) (.int .i64 (orZero (compOk V U ys s) V))).far (a := ⟨w7.heap.size, 1, none⟩) (by show p < w7.heap.size; omega) (.int .i64 (orZero (compOk V U ys s) U))).far (a := ⟨w7.heap.size, 2, none⟩) (by show p < w7.heap.size; omega) (.slice A6 (compX V U ys s).length c6)
        have gF := grown_own hGb ((((Below.refl w7.heap.size _).setCell (p := ⟨w7.heap.size, 0, none⟩) hqq (.int .i64 (orZero (compOk V U ys s) V))).setCell (p := ⟨w7.heap.size, 1, none⟩) hqq (.int .i64 (orZero (compOk V U ys s) U))).setCell (p := ⟨w7.heap.size, 2, none⟩) hqq (.slice A6 (compX V U ys s).length c6))
        clear zz0 zz1 zz2 zf0 zf1 zf2
        refine hK.out _ _ (by exact ⟨gF.cell (a := ⟨w3.heap.size, 0, none⟩) q0 hqp, gF.cell (a := ⟨w3.heap.size, 1, none⟩) q1 hqp, gF.cell (a := ⟨w3.heap.size, 2, none⟩) q2 hqp⟩) (fun hHeld => ?_)
        clear hK K
        (try simp only [Act.put, List.getElem_toArray, List.getElem_cons_zero, List.getElem_cons_succ, List.setIfInBounds_toArray, List.set_cons_zero, List.set_cons_succ])
        refine wpAnyH_take (i := 9) (v := ?_) rfl (by kernel_rfl) (by kernel_rfl) (by kernel_rfl) (fun _ _ _ h => h) (Or.inl ⟨by rfl, ?_⟩) (by assumption) ?_
        rotate_left
        · intro w hSw; (try dsimp only at hSw); go_simp; (try with_reducible rfl)
        (try simp only [Act.put, List.getElem_toArray, List.getElem_cons_zero, List.getElem_cons_succ, List.setIfInBounds_toArray, List.set_cons_zero, List.set_cons_succ])
        clear hHeld
        refine wpAnyH_done (by kernel_rfl) ?_ _
        refine NoPanic.normal ?_
        go_wp2_with fail
        go_meet
        exact ⟨s, _, A6, c6, rfl, rfl, hqq, zF, oF, cF, gF⟩
    case rest =>
      obtain ⟨s, Q, A6, c6, rfl, rfl, hQ, zQ, own6, hc6, hG6⟩ := hcut
      have hsm := compX_small V U ys s hsm6.2.1 hsm6.2.2
      have rT := r7.mark hG6 (fun z hz => by cases hz; omega)
      have qT := q7.mark hG6 (fun z hz => by cases hz; omega)
      have ownT := own7'.mark hG6 (fun z z' hz hz' => by cases hz; have := (own7'.bd z' hz').1; omega)
      have HGT := Lib.hid (grown_trans HG7.out hG6)
      replace own6 := own6.mono hwS
      clear hG6 q7 r7 own7' hc7 HG7 q0 q1 q2
      by_cases hok : (compOk V U ys s) = true
      · rw [hok] at hsm zQ ⊢
        have hQz := zQ.lt
        have hqz2 := qT.lt
        go_wp2_with fail
        refine (one_any p (k + 2000 + 2) 2 _ hc6 (by omega) (by omega) (by omega)).mono ?_
        rintro e wu ⟨d, rfl, hcu, hgu⟩
        have ru := rT.mark hgu (fun z hz => by cases hz; omega)
        have qu := qT.mark hgu (fun z hz => by cases hz; omega)
        have zu := zQ.mark hgu (fun z hz => by cases hz; omega)
        have ownu := ownT.mark hgu (fun z z' hz hz' => by cases hz; have := (ownT.bd z' hz').1; omega)
        have own7 := own6.mark hgu (fun z z' hz hz' => by cases hz; have := (own6.bd z' hz').1; omega)
        have HGU := Lib.hid (grown_trans HGT.out hgu)
        clear hgu rT qT zQ ownT own6 hc6 HGT hok
        cases d
        · skip
          have f0 := qu.cell 0
          have f1 := qu.cell 1
          have f2 := qu.cell 2
          have g0 := ru.cell 0
          have g1 := ru.cell 1
          have g2 := ru.cell 2
          have z0 := ru.frozen 0
          have z1 := ru.frozen 1
          have z2 := ru.frozen 2
          have F := fin3 (p := w.heap.size) (w0 := wu) (B := w.heap.size) (a := .int .i64 V) (b := .int .i64 U) (c := .slice A6' ys.length c6') ownu (row_ne' ownu.1 ru (by decide)) (Below.refl _ _) (Nat.le_refl _)
          have hcF := (hcu.below F.2 hpw).more (show _ ≤ k + 3000 by omega)
          have hGF := grown_own HGU.out F.2
          have F1 := F.1
          clear F
          go_wp2
          exact bodyPost_ret (v := chartV V U (.slice A6' ys.length c6')) (by simp [results, Try.results71, go_sem, g0, g1, g2]) rfl ⟨V, U, A6', c6', ys, rfl, hsm6, F1, hcF, hGF⟩
        · skip
          have f0 := zu.cell 0
          have f1 := zu.cell 1
          have f2 := zu.cell 2
          have g0 := ru.cell 0
          have g1 := ru.cell 1
          have g2 := ru.cell 2
          have z0 := ru.frozen 0
          have z1 := ru.frozen 1
          have z2 := ru.frozen 2
          have F := fin3 (p := w.heap.size) (w0 := wu) (B := w.heap.size) (a := .int .i64 (orZero true V)) (b := .int .i64 (orZero true U)) (c := .slice A6 (compX V U ys s).length c6) own7 (row_ne' own7.1 ru (by decide)) (Below.refl _ _) (Nat.le_refl _)
          have hcF := (hcu.below F.2 hpw).more (show _ ≤ k + 3000 by omega)
          have hGF := grown_own HGU.out F.2
          have F1 := F.1
          clear F
          go_wp2
          exact bodyPost_ret (v := chartV (orZero true V) (orZero true U) (.slice A6 (compX V U ys s).length c6)) (by simp [results, Try.results71, go_sem, g0, g1, g2]) rfl ⟨(orZero true V), (orZero true U), A6, c6, (compX V U ys s), rfl, hsm, F1, hcF, hGF⟩
      · rw [not_false hok]
        have hqz2 := qT.lt
        have f0 := qT.cell 0
        have f1 := qT.cell 1
        have f2 := qT.cell 2
        have g0 := rT.cell 0
        have g1 := rT.cell 1
        have g2 := rT.cell 2
        have z0 := rT.frozen 0
        have z1 := rT.frozen 1
        have z2 := rT.frozen 2
        have F := fin3 (p := w.heap.size) (w0 := wc) (B := w.heap.size) (a := .int .i64 V) (b := .int .i64 U) (c := .slice A6' ys.length c6') ownT (row_ne' ownT.1 rT (by decide)) (Below.refl _ _) (Nat.le_refl _)
        have hcF := (hc6.below F.2 hpw).more (show _ ≤ k + 3000 by omega)
        have hGF := grown_own HGT.out F.2
        have F1 := F.1
        clear F
        go_wp2
        exact bodyPost_ret (v := chartV V U (.slice A6' ys.length c6')) (by simp [results, Try.results71, go_sem, g0, g1, g2]) rfl ⟨V, U, A6', c6', ys, rfl, hsm6, F1, hcF, hGF⟩
end Go.Proofs.Ytihgobceahfpiaa
