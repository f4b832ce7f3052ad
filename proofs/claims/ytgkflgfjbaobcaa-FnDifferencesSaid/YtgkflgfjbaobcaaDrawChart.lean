/- The walk of the cursor's chart: a chart that is mostly valid. Condition: few draws. -/
import Derived.Test.YtgkflgfjbaobcaaPlainDraw
import Derived.Deep.DeepCutAuto
namespace Go.Proofs.Ytgkflgfjbaobcaa
open Go.RowKit

theorem I64.lit {l : List Int} (h : ∀ x ∈ l, -1000 ≤ x ∧ x ≤ 1000) : ∀ x ∈ l, I64 x := fun x hx => by have := h x hx; unfold I64; omega
theorem among_lit (p k q m : Nat) (xs : List Int) (w : World) (hq : q = w.heap.size) (hm : m = xs.length) (h : Cur w p k) (hk : k + 2 ≤ 4294967296) (h1 : 1 ≤ xs.length) (hn : xs.length ≤ 1000) (hx : ∀ x ∈ xs, I64 x) :
    Calls Try.prog 32 #[.pointer (some ⟨p, 0, none⟩), .slice (some ⟨q, 0, none⟩) m m] (w.alloc (.cells (xs.map (Value.int .i64)).toArray 3)) fun e w' => ∃ y : Int, e = .returned (.int .i64 y) ∧ y ∈ xs ∧ Cur w' p (k + 2) ∧ w.grownBy w' (some p) := by
  subst hq
  subst hm
  have hal := (Below.refl w.heap.size w).alloc (Nat.le_refl _) (.cells (xs.map (Value.int .i64)).toArray 3)
  have hp := h.lt
  refine (among_any p k w.heap.size 0 xs.length xs.length _ xs _ (h.all hal) hk (lit_rd w xs hx hn) h1 hn (by omega)).mono ?_
  rintro e w' ⟨y, rfl, hy, hc, hg⟩
  exact ⟨y, rfl, hy, hc, grown_trans (below_grown hal) hg⟩
/-- A list that lies in a block known whole. -/
theorem lit_rd2 {w : World} {q : Nat} {xs : List Int} (h : Blk w q 3 (xs.map (Value.int .i64)).toArray) (hx : ∀ x ∈ xs, I64 x) (hn : xs.length ≤ 1000) : Rd w (q + 1) (some ⟨q, 0, none⟩) xs.length xs.length xs :=
  ⟨rfl, Nat.le_refl _, by unfold maxLen; omega, fun _ => ⟨q, 0, rfl, by omega, fun j hj => by
    rw [Nat.zero_add, h.cell]
    simp [hj]⟩, hx, fun e => by cases e⟩
/-- A side, or nearly one. -/
def Side9 (n : Int) : Prop := 0 ≤ n ∧ n ≤ 9
theorem Side9.fit {n : Int} (h : Side9 n) : I64 n := by unfold Side9 at h; unfold I64; omega
set_option maxRecDepth 100000 in
set_option maxHeartbeats 8000000 in
theorem chart_any9 (p k : Nat) (w : World) (h : Cur w p k) (hk : k + 1000 ≤ 4294967296) : Calls Try.prog 26 #[.pointer (some ⟨p, 0, none⟩)] w (DrewChart w p (k + 1000) fun W H xs => xs.length ≤ 1000 ∧ Side9 W ∧ Side9 H) := by
  have hpw := h.lt
  have hb0 := (Below.refl w.heap.size w).alloc (Nat.le_refl _) (.cells #[.int .i64 0, .int .i64 0, .slice none 0 0] 26)
  have HG0 := Lib.hid (below_grown (row := some p) hb0)
  have hc0 := h.all hb0
  have r0 := Blk.new w #[.int .i64 0, .int .i64 0, .slice none 0 0] 26
  clear h hb0
  go_enter Try.func26, Try.ntmps26
  go_wp2_with fail
  refine (among_lit p k (w.heap.size + 1) 9 [1, 2, 3, 3, 4, 4, 5, 6, 8] (w.alloc (.cells #[.int .i64 0, .int .i64 0, .slice none 0 0] 26)) (by simp) rfl hc0 (by omega) (by decide) (by decide) (I64.lit (by decide))).mono ?_
  rintro e w1 ⟨y1, rfl, hy1, hc1, hg1⟩
  have hy1b : 1 ≤ y1 ∧ y1 ≤ 8 := by simp at hy1; omega
  have r1 := r0.mark hg1 (fun z hz => by cases hz; omega)
  have HG1 := Lib.hid (grown_trans HG0.out hg1)
  clear hc0 hg1 r0 HG0 hy1
  go_wp2_with fail
  refine (among_lit p (k + 2) w1.heap.size 7 [1, 2, 3, 3, 4, 5, 8] w1 rfl rfl hc1 (by omega) (by decide) (by decide) (I64.lit (by decide))).mono ?_
  rintro e w2 ⟨y2, rfl, hy2, hc2, hg2⟩
  have hy2b : 1 ≤ y2 ∧ y2 ≤ 8 := by simp at hy2; omega
  have r2 := r1.mark hg2 (fun z hz => by cases hz; omega)
  have HG2 := Lib.hid (grown_trans HG1.out hg2)
  obtain ⟨W, rfl⟩ := Int.eq_ofNat_of_zero_le (show 0 ≤ y1 by omega)
  obtain ⟨H, rfl⟩ := Int.eq_ofNat_of_zero_le (show 0 ≤ y2 by omega)
  have hWH : W * H ≤ 8 * 8 := Nat.mul_le_mul (by omega) (by omega)
  have hWH1 : 1 * 1 ≤ W * H := Nat.mul_le_mul (by omega) (by omega)
  clear hc1 hg2 r1 HG1 hy2
  go_wp2_with fail
  refine (plain_any p (k + 4) W H _ hc2 (by omega) (by omega) (by omega)).mono ?_
  rintro e w3 ⟨W', H', A, c, xs, rfl, ⟨rfl, rfl, hxl⟩, own3, hc3, hg3⟩
  replace hc3 := hc3.more (show _ ≤ k + 500 by omega)
  have r3 := r2.mark hg3 (fun z hz => by cases hz; omega)
  have HG3 := Lib.hid (grown_trans HG2.out hg3)
  have hz2 := HG2.out.size
  replace own3 := own3.mono (show w.heap.size + 1 ≤ w2.heap.size by have := r2.lt; omega)
  have hlen : xs.length ≤ 64 ∧ 1 ≤ xs.length := by omega
  obtain ⟨g, rfl, hgl, hgh⟩ := own3.some_ (by omega)
  clear hc2 hg3 r2 HG2 hxl
  have ob := (Below.refl w3.heap.size w3).alloc (Nat.le_refl _) (.cells #[.int .i64 W, .int .i64 H, .slice (some ⟨g, 0, none⟩) xs.length c] 26)
  have r4 := r3.all ob
  have own4 := own3.all ob
  have hc4 := hc3.all ob
  have q4 := Blk.new w3 #[.int .i64 W, .int .i64 H, .slice (some ⟨g, 0, none⟩) xs.length c] 26
  have HG4 := Lib.hid (grown_trans HG3.out (below_grown (row := some p) ob))
  have hz3 := HG3.out.size
  clear ob r3 own3 hc3 HG3
  go_wp2_with fail
  refine (pick_any p (k + 500) 40 _ hc4 (by omega) (by omega) (by omega)).mono ?_
  rintro e w5 ⟨x, rfl, ⟨x0, x1⟩, hc5, hg5⟩
  replace hc5 := hc5.more (show _ ≤ k + 700 by omega)
  have r5 := r4.mark hg5 (fun z hz => by cases hz; omega)
  have own5 := own4.mark hg5 (fun z z' hz hz' => by cases hz; have := (own4.bd z' hz').1; omega)
  have q5 := q4.mark hg5 (fun z hz => by cases hz; omega)
  have HG5 := Lib.hid (grown_trans HG4.out hg5)
  have hz5 := HG5.out.size
  have q52 := q5.cell 2
  have hqp : some w3.heap.size ≠ some p := by simp; omega
  have hrz := r5.lt
  have hqz := q5.lt
  clear hc4 hg5 r4 own4 q4 HG4
  by_cases hx0 : x = 0
  · subst hx0
    go_wp2
    refine wp_region_noPanic ?_
    refine wp_region_held_drew (S := (fun w' => w'.cell? ⟨w3.heap.size, 2, none⟩ = some (.slice (some ⟨g, 0, none⟩) xs.length c))) (by kernel_rfl) (by go_keep) (fun hHeld => ?_)
    refine wpAnyH_take (i := 0) (v := ?_) rfl (by kernel_rfl) (by kernel_rfl) (by kernel_rfl) (fun _ _ _ h => h) (Or.inl ⟨by rfl, ?_⟩) (by assumption) ?_
    rotate_left
    · intro w hSw; (try dsimp only at hSw); go_simp; (try with_reducible rfl)
    (try simp only [Act.put, List.getElem_toArray, List.getElem_cons_zero, List.setIfInBounds_toArray, List.set_cons_zero, List.set_cons_succ])
    refine wpAnyH_take (i := 1) (v := ?_) rfl (by kernel_rfl) (by kernel_rfl) (by kernel_rfl) (fun _ _ _ h => h) (Or.inl ⟨by rfl, ?_⟩) (by assumption) ?_
    rotate_left
    · intro w hSw; (try dsimp only at hSw); go_simp; (try with_reducible rfl)
    (try simp only [Act.put, List.getElem_toArray, List.getElem_cons_zero, List.getElem_cons_succ, List.setIfInBounds_toArray, List.set_cons_zero, List.set_cons_succ])
    refine wpAnyH_take (i := 2) (v := ?_) rfl (by kernel_rfl) (by kernel_rfl) (by kernel_rfl) (fun _ _ _ h => h) (Or.inl ⟨by rfl, ?_⟩) (by assumption) ?_
    rotate_left
    · intro w hSw; (try dsimp only at hSw); go_simp; (try with_reducible rfl)
    (try simp only [Act.put, List.getElem_toArray, List.getElem_cons_zero, List.getElem_cons_succ, List.setIfInBounds_toArray, List.set_cons_zero, List.set_cons_succ])
    refine wpAnyH_take (i := 3) (v := ?_) rfl (by kernel_rfl) (by kernel_rfl) (by kernel_rfl) (fun _ _ _ h => h) (Or.inl ⟨by rfl, ?_⟩) (by assumption) ?_
    rotate_left
    · intro w hSw; (try dsimp only at hSw); go_simp; (try with_reducible rfl)
    (try simp only [Act.put, List.getElem_toArray, List.getElem_cons_zero, List.getElem_cons_succ, List.setIfInBounds_toArray, List.set_cons_zero, List.set_cons_succ])
    refine wpAnyH_take (i := 4) (v := ?_) rfl (by kernel_rfl) (by kernel_rfl) (by kernel_rfl) (fun _ _ _ h => h) (Or.inl ⟨by rfl, ?_⟩) (by assumption) ?_
    rotate_left
    · intro w hSw; (try dsimp only at hSw); go_simp; (try with_reducible rfl)
    (try simp only [Act.put, List.getElem_toArray, List.getElem_cons_zero, List.getElem_cons_succ, List.setIfInBounds_toArray, List.set_cons_zero, List.set_cons_succ])
    refine wpAnyH_take (i := 5) (v := ?_) rfl (by kernel_rfl) (by kernel_rfl) (by kernel_rfl) (fun _ _ _ h => h) (Or.inl ⟨by rfl, ?_⟩) (by assumption) ?_
    rotate_left
    · intro w hSw; (try dsimp only at hSw); go_simp; (try with_reducible rfl)
    (try simp only [Act.put, List.getElem_toArray, List.getElem_cons_zero, List.getElem_cons_succ, List.setIfInBounds_toArray, List.set_cons_zero, List.set_cons_succ])
    refine wpAnyH_take (i := 7) (v := ?_) rfl (by kernel_rfl) (by kernel_rfl) (by kernel_rfl) (fun _ _ _ h => h) (Or.inl ⟨by rfl, ?_⟩) (by assumption) ?_
    rotate_left
    · intro w hSw; (try dsimp only at hSw); go_simp; (try with_reducible rfl)
    (try simp only [Act.put, List.getElem_toArray, List.getElem_cons_zero, List.getElem_cons_succ, List.setIfInBounds_toArray, List.set_cons_zero, List.set_cons_succ])
    clear hHeld
    have hD : w5.grownBy w5.drew (some p) := drew_grown _ _
    refine wpAnyH_ready (rs := [6, 8]) (by kernel_rfl) (by simp) ?_
    refine AllReadyH.cons rfl (fun K hK => ?_) ?_
    · go_simp
      refine (pick_any p (k + 700) xs.length _ (cur_drew hc5) (by omega) (by omega) (by omega)).mono ?_
      rintro e wa ⟨q, rfl, ⟨q0, q1⟩, hca, hga⟩
      have hGa := grown_trans hD hga
      refine hK.out _ _ (by exact (hGa.cell (a := ⟨w3.heap.size, 2, none⟩) q52 hqp)) (fun hHeld => ?_)
      clear hK K hHeld
      (try simp only [Act.put, List.getElem_toArray, List.getElem_cons_zero, List.getElem_cons_succ, List.setIfInBounds_toArray, List.set_cons_zero, List.set_cons_succ])
      refine wpAnyH_ready (rs := [8]) (by kernel_rfl) (by simp) ?_
      refine AllReadyH.cons rfl (fun K hK => ?_) AllReadyH.nil
      go_simp
      have hal := below_grown (row := some p) ((Below.refl wa.heap.size wa).alloc (Nat.le_refl _) (.cells ([-1, 6].map (Value.int .i64)).toArray 3))
      have hGb := grown_trans hGa hal
      refine hK.out _ _ (by exact (hGb.cell (a := ⟨w3.heap.size, 2, none⟩) q52 hqp)) (fun hHeld => ?_)
      clear hK K hHeld
      (try simp only [Act.put, List.getElem_toArray, List.getElem_cons_zero, List.getElem_cons_succ, List.setIfInBounds_toArray, List.set_cons_zero, List.set_cons_succ])
      refine wpAnyH_ready (rs := [9]) (by kernel_rfl) (by simp) ?_
      refine AllReadyH.cons rfl (fun K hK => ?_) AllReadyH.nil
      go_simp
      refine (among_lit p (k + 702) wa.heap.size 2 [-1, 6] wa rfl rfl hca (by omega) (by decide) (by decide) (I64.lit (by decide))).mono ?_
      rintro e wb ⟨y, rfl, hy, hcb, hgb⟩
      have hGc := grown_trans hGa hgb
      refine hK.out _ _ (by exact (hGc.cell (a := ⟨w3.heap.size, 2, none⟩) q52 hqp)) (fun hHeld => ?_)
      clear hK K hHeld
      (try simp only [Act.put, List.getElem_toArray, List.getElem_cons_zero, List.getElem_cons_succ, List.setIfInBounds_toArray, List.set_cons_zero, List.set_cons_succ])
      obtain ⟨q, rfl⟩ := Int.eq_ofNat_of_zero_le q0
      have hql : q < xs.length := by omega
      have hqi : (q : Int) < (xs.length : Int) := by omega
      have hy64 : I64 y := I64.lit (by decide) y hy
      have owc := own5.mark hGc (fun z z' hz hz' => by cases hz; have := (own5.bd z' hz').1; omega)
      obtain ⟨old, HO⟩ : ∃ v, Hid (xs.getD q 0 = v) := ⟨_, rfl⟩
      have hold := own_at owc hql HO.out
      obtain ⟨hfz, o9, hg9⟩ := own_put owc q y hy64
      refine wpAnyH_ready (rs := [10]) (by kernel_rfl) (by simp) ?_
      refine AllReadyH.cons rfl (fun K hK => ?_) AllReadyH.nil
      go_simp
      refine hK.out _ _ (by exact (hGc.cell (a := ⟨w3.heap.size, 2, none⟩) q52 hqp)) (fun hHeld => ?_)
      clear hK K hHeld
      (try simp only [Act.put, List.getElem_toArray, List.getElem_cons_zero, List.getElem_cons_succ, List.setIfInBounds_toArray, List.set_cons_zero, List.set_cons_succ])
      refine wpAnyH_ready (rs := [11]) (by kernel_rfl) (by simp) ?_
      refine AllReadyH.cons rfl (fun K hK => ?_) AllReadyH.nil
      go_simp
      have hq9 := (q5.mark hGc (fun z hz => by cases hz; omega)).mark hg9 (row_ne owc.1 (q5.mark hGc (fun z hz => by cases hz; omega)) (by decide))
      have hr9 := (r5.mark hGc (fun z hz => by cases hz; omega)).mark hg9 (row_ne owc.1 (r5.mark hGc (fun z hz => by cases hz; omega)) (by decide))
      have hc9 := hcb.far (a := ⟨g, q, none⟩) (by show p < g; omega) (.int .i64 y)
      have hG9 := grown_own (grown_trans HG5.out hGc) ((Below.refl w.heap.size wb).setCell (p := ⟨g, q, none⟩) (by show w.heap.size ≤ g; omega) (.int .i64 y))
      refine hK.out _ _ (by exact hq9.cell 2) (fun hHeld => ?_)
      clear hK K hHeld
      (try simp only [Act.put, List.getElem_toArray, List.getElem_cons_zero, List.getElem_cons_succ, List.setIfInBounds_toArray, List.set_cons_zero, List.set_cons_succ])
      refine wpAnyH_done (by kernel_rfl) ?_ _
      refine NoPanic.normal ?_
      have HYL := Lib.hid (show (xs.set q y).length = xs.length by rw [List.length_set])
      replace o9 := o9.mono (show w.heap.size ≤ _ by omega)
      generalize xs.set q y = ys at *
      generalize wb.setCell ⟨g, q, none⟩ (.int .i64 y) = wv at *
      clear hold hfz hg9
      have f0 := hq9.cell 0
      have f1 := hq9.cell 1
      have f2 := hq9.cell 2
      have g0 := hr9.cell 0
      have g1 := hr9.cell 1
      have g2 := hr9.cell 2
      have z0 := hr9.frozen 0
      have z1 := hr9.frozen 1
      have z2 := hr9.frozen 2
      have F := fin3 (p := w.heap.size) (w0 := wv) (B := w.heap.size) (a := .int .i64 (W : Int)) (b := .int .i64 (H : Int)) (c := .slice (some ⟨g, 0, none⟩) xs.length c) o9 (row_ne' o9.1 hr9 (by decide)) (Below.refl _ _) (Nat.le_refl _)
      have hcF := (hc9.below F.2 hpw).more (show _ ≤ k + 1000 by omega)
      have hGF := grown_own hG9 F.2
      have F1 := F.1
      clear F
      go_wp2
      refine bodyPost_ret (v := chartV (W : Int) (H : Int) (.slice (some ⟨g, 0, none⟩) xs.length c)) (by simp [results, Try.results26, go_sem, g0, g1, g2]) rfl ⟨(W : Int), (H : Int), (some ⟨g, 0, none⟩), c, ys, by rw [HYL.out], ⟨by rw [HYL.out]; omega, by unfold Side9; omega, by unfold Side9; omega⟩, by rw [HYL.out]; exact F1, hcF, hGF⟩
    · refine AllReadyH.cons rfl (fun K hK => ?_) AllReadyH.nil
      go_simp
      have hal := below_grown (row := some p) ((Below.refl w5.drew.heap.size w5.drew).alloc (Nat.le_refl _) (.cells ([-1, 6].map (Value.int .i64)).toArray 3))
      have hGz := grown_trans hD hal
      have hcz := (cur_drew hc5).all ((Below.refl w5.drew.heap.size w5.drew).alloc (Nat.le_refl _) (.cells ([-1, 6].map (Value.int .i64)).toArray 3))
      have hlz : Blk _ w5.heap.size _ _ := Blk.new w5.drew ([-1, 6].map (Value.int .i64)).toArray 3
      refine hK.out _ _ (by exact (hGz.cell (a := ⟨w3.heap.size, 2, none⟩) q52 hqp)) (fun hHeld => ?_)
      clear hK K hHeld
      (try simp only [Act.put, List.getElem_toArray, List.getElem_cons_zero, List.getElem_cons_succ, List.setIfInBounds_toArray, List.set_cons_zero, List.set_cons_succ])
      refine wpAnyH_ready (rs := [6]) (by kernel_rfl) (by simp) ?_
      refine AllReadyH.cons rfl (fun K hK => ?_) AllReadyH.nil
      go_simp
      refine (pick_any p (k + 700) xs.length _ hcz (by omega) (by omega) (by omega)).mono ?_
      rintro e wa ⟨q, rfl, ⟨q0, q1⟩, hca, hga⟩
      have hGa := grown_trans hGz hga
      have hla := hlz.mark hga (fun z hz => by cases hz; omega)
      refine hK.out _ _ (by exact (hGa.cell (a := ⟨w3.heap.size, 2, none⟩) q52 hqp)) (fun hHeld => ?_)
      clear hK K hHeld
      (try simp only [Act.put, List.getElem_toArray, List.getElem_cons_zero, List.getElem_cons_succ, List.setIfInBounds_toArray, List.set_cons_zero, List.set_cons_succ])
      refine wpAnyH_ready (rs := [9]) (by kernel_rfl) (by simp) ?_
      refine AllReadyH.cons rfl (fun K hK => ?_) AllReadyH.nil
      go_simp
      refine (among_any p (k + 702) w5.heap.size 0 2 2 _ [-1, 6] _ hca (by omega) (lit_rd2 hla (I64.lit (by decide)) (by decide)) (by omega) (by omega) (by omega)).mono ?_
      rintro e wb ⟨y, rfl, hy, hcb, hgb⟩
      have hGc := grown_trans hGa hgb
      refine hK.out _ _ (by exact (hGc.cell (a := ⟨w3.heap.size, 2, none⟩) q52 hqp)) (fun hHeld => ?_)
      clear hK K hHeld
      (try simp only [Act.put, List.getElem_toArray, List.getElem_cons_zero, List.getElem_cons_succ, List.setIfInBounds_toArray, List.set_cons_zero, List.set_cons_succ])
      obtain ⟨q, rfl⟩ := Int.eq_ofNat_of_zero_le q0
      have hql : q < xs.length := by omega
      have hqi : (q : Int) < (xs.length : Int) := by omega
      have hy64 : I64 y := I64.lit (by decide) y hy
      have owc := own5.mark hGc (fun z z' hz hz' => by cases hz; have := (own5.bd z' hz').1; omega)
      obtain ⟨old, HO⟩ : ∃ v, Hid (xs.getD q 0 = v) := ⟨_, rfl⟩
      have hold := own_at owc hql HO.out
      obtain ⟨hfz, o9, hg9⟩ := own_put owc q y hy64
      refine wpAnyH_ready (rs := [10]) (by kernel_rfl) (by simp) ?_
      refine AllReadyH.cons rfl (fun K hK => ?_) AllReadyH.nil
      go_simp
      refine hK.out _ _ (by exact (hGc.cell (a := ⟨w3.heap.size, 2, none⟩) q52 hqp)) (fun hHeld => ?_)
      clear hK K hHeld
      (try simp only [Act.put, List.getElem_toArray, List.getElem_cons_zero, List.getElem_cons_succ, List.setIfInBounds_toArray, List.set_cons_zero, List.set_cons_succ])
      refine wpAnyH_ready (rs := [11]) (by kernel_rfl) (by simp) ?_
      refine AllReadyH.cons rfl (fun K hK => ?_) AllReadyH.nil
      go_simp
      have hq9 := (q5.mark hGc (fun z hz => by cases hz; omega)).mark hg9 (row_ne owc.1 (q5.mark hGc (fun z hz => by cases hz; omega)) (by decide))
      have hr9 := (r5.mark hGc (fun z hz => by cases hz; omega)).mark hg9 (row_ne owc.1 (r5.mark hGc (fun z hz => by cases hz; omega)) (by decide))
      have hc9 := hcb.far (a := ⟨g, q, none⟩) (by show p < g; omega) (.int .i64 y)
      have hG9 := grown_own (grown_trans HG5.out hGc) ((Below.refl w.heap.size wb).setCell (p := ⟨g, q, none⟩) (by show w.heap.size ≤ g; omega) (.int .i64 y))
      refine hK.out _ _ (by exact hq9.cell 2) (fun hHeld => ?_)
      clear hK K hHeld
      (try simp only [Act.put, List.getElem_toArray, List.getElem_cons_zero, List.getElem_cons_succ, List.setIfInBounds_toArray, List.set_cons_zero, List.set_cons_succ])
      refine wpAnyH_done (by kernel_rfl) ?_ _
      refine NoPanic.normal ?_
      have HYL := Lib.hid (show (xs.set q y).length = xs.length by rw [List.length_set])
      replace o9 := o9.mono (show w.heap.size ≤ _ by omega)
      generalize xs.set q y = ys at *
      generalize wb.setCell ⟨g, q, none⟩ (.int .i64 y) = wv at *
      clear hold hfz hg9
      have f0 := hq9.cell 0
      have f1 := hq9.cell 1
      have f2 := hq9.cell 2
      have g0 := hr9.cell 0
      have g1 := hr9.cell 1
      have g2 := hr9.cell 2
      have z0 := hr9.frozen 0
      have z1 := hr9.frozen 1
      have z2 := hr9.frozen 2
      have F := fin3 (p := w.heap.size) (w0 := wv) (B := w.heap.size) (a := .int .i64 (W : Int)) (b := .int .i64 (H : Int)) (c := .slice (some ⟨g, 0, none⟩) xs.length c) o9 (row_ne' o9.1 hr9 (by decide)) (Below.refl _ _) (Nat.le_refl _)
      have hcF := (hc9.below F.2 hpw).more (show _ ≤ k + 1000 by omega)
      have hGF := grown_own hG9 F.2
      have F1 := F.1
      clear F
      go_wp2
      refine bodyPost_ret (v := chartV (W : Int) (H : Int) (.slice (some ⟨g, 0, none⟩) xs.length c)) (by simp [results, Try.results26, go_sem, g0, g1, g2]) rfl ⟨(W : Int), (H : Int), (some ⟨g, 0, none⟩), c, ys, by rw [HYL.out], ⟨by rw [HYL.out]; omega, by unfold Side9; omega, by unfold Side9; omega⟩, by rw [HYL.out]; exact F1, hcF, hGF⟩
  · have hx0' : (x == 0) = false := by simpa using hx0
    by_cases hx1 : x = 1
    · subst hx1
      have hqx := q5.frozen 2
      go_wp2_with (at_builtin; refine wpList_append_one w5 rfl (.tmp 30) (.tmp 31) 24 rfl Try.underlying24 info_int (w.heap.size + 1) _ xs 0 rfl rfl own5 (by omega) ⟨by omega, by omega⟩ (by omega) ?_)
      intro A9 c9 w9 o9 hg9
      have x9 := q5.mark hg9 (row_ne own5.1 q5 (by decide))
      have r9 := r5.mark hg9 (row_ne own5.1 r5 (by decide))
      have c9' := hc5.mark hg9 (fun z hz => by have := (own5.bd z hz).1; omega)
      have hb9 := (Below.refl w.heap.size w5).grown hg9 hz5 (fun z hz => by have := (own5.bd z hz).1; omega)
      have HL9 := Lib.hid (show (xs ++ [0]).length = xs.length + 1 by simp)
      have f9z := x9.frozen 2
      have f9c := x9.cell 2
      have x10 : Blk (w9.setCell ⟨w3.heap.size, 2, none⟩ (.slice A9 (xs.length + 1) c9)) w3.heap.size 26 #[.int .i64 W, .int .i64 H, .slice A9 (xs.length + 1) c9] := by simpa using x9.set_ 2 (.slice A9 (xs.length + 1) c9)
      have o10 := (o9.far (a := ⟨w3.heap.size, 2, none⟩) (row_ne' o9.1 x9 (by decide)) (.slice A9 (xs.length + 1) c9)).mono (show w.heap.size ≤ _ by omega)
      have r10 := r9.far (a := ⟨w3.heap.size, 2, none⟩) (by show w.heap.size ≠ w3.heap.size; omega) (.slice A9 (xs.length + 1) c9)
      have c10 := c9'.far (a := ⟨w3.heap.size, 2, none⟩) (by show p < w3.heap.size; omega) (.slice A9 (xs.length + 1) c9)
      have HGA := Lib.hid (grown_own HG5.out (hb9.setCell (p := ⟨w3.heap.size, 2, none⟩) (by show w.heap.size ≤ w3.heap.size; omega) (.slice A9 (xs.length + 1) c9)))
      have f0 := x10.cell 0
      have f1 := x10.cell 1
      have f2 := x10.cell 2
      have g0 := r10.cell 0
      have g1 := r10.cell 1
      have g2 := r10.cell 2
      have z0 := r10.frozen 0
      have z1 := r10.frozen 1
      have z2 := r10.frozen 2
      have F := fin3 (p := w.heap.size) (w0 := (w9.setCell ⟨w3.heap.size, 2, none⟩ (.slice A9 (xs.length + 1) c9))) (B := w.heap.size) (a := .int .i64 (W : Int)) (b := .int .i64 (H : Int)) (c := .slice A9 (xs.length + 1) c9) o10 (row_ne' o10.1 r10 (by decide)) (Below.refl _ _) (Nat.le_refl _)
      have hcF := (c10.below F.2 hpw).more (show _ ≤ k + 1000 by omega)
      have hGF := grown_own HGA.out F.2
      have F1 := F.1
      clear F
      go_wp2
      refine bodyPost_ret (v := chartV (W : Int) (H : Int) (.slice A9 (xs.length + 1) c9)) (by simp [results, Try.results26, go_sem, g0, g1, g2]) rfl ⟨(W : Int), (H : Int), A9, c9, (xs ++ [0]), by rw [HL9.out], ⟨by rw [HL9.out]; omega, by unfold Side9; omega, by unfold Side9; omega⟩, by rw [HL9.out]; exact F1, hcF, hGF⟩
    · have hx1' : (x == 1) = false := by simpa using hx1
      by_cases hx2 : x = 2
      · subst hx2
        go_wp2_with fail
        refine (among_lit p (k + 700) w5.heap.size 2 [0, 9] w5 rfl rfl hc5 (by omega) (by decide) (by decide) (I64.lit (by decide))).mono ?_
        rintro e w6 ⟨y6, rfl, hy6, hc6, hg6⟩
        have hy6b : 0 ≤ y6 ∧ y6 ≤ 9 := by simp at hy6; omega
        obtain ⟨V, rfl⟩ := Int.eq_ofNat_of_zero_le hy6b.1
        have r6 := r5.mark hg6 (fun z hz => by cases hz; omega)
        have q6 := q5.mark hg6 (fun z hz => by cases hz; omega)
        have HG6 := Lib.hid (grown_trans HG5.out hg6)
        clear hc5 r5 q5 HG5 q52 own5 hy6
        go_wp2_with fail
        refine (plain_any p (k + 702) V 1 _ hc6 (by omega) (by omega) (by omega)).mono ?_
        rintro e w7 ⟨V', H', A7, c7, ys, rfl, ⟨rfl, rfl, hyl⟩, own7, hc7, hg7⟩
        have r7 := r6.mark hg7 (fun z hz => by cases hz; omega)
        have q7 := q6.mark hg7 (fun z hz => by cases hz; omega)
        have HG7 := Lib.hid (grown_trans HG6.out hg7)
        replace own7 := own7.mono (show w.heap.size ≤ w6.heap.size from HG6.out.size)
        replace hc7 := hc7.more (show _ ≤ k + 800 by omega)
        have hyl9 : ys.length ≤ 9 := by omega
        have hpq := q7.lt
        clear hc6 hg6 hg7 r6 q6 HG6 hyl
        have y70 := q7.cell 0
        have y71 := q7.cell 1
        have y72 := q7.cell 2
        have v70 := q7.frozen 0
        have v71 := q7.frozen 1
        have v72 := q7.frozen 2
        have q8 : Blk (((w7.setCell ⟨w3.heap.size, 0, none⟩ (.int .i64 V)).setCell ⟨w3.heap.size, 1, none⟩ (.int .i64 1)).setCell ⟨w3.heap.size, 2, none⟩ (.slice A7 ys.length c7)) w3.heap.size 26 #[.int .i64 V, .int .i64 1, .slice A7 ys.length c7] := by simpa using ((q7.set_ 0 (.int .i64 V)).set_ 1 (.int .i64 1)).set_ 2 (.slice A7 ys.length c7)
        have F8 := fin3 (p := w3.heap.size) (w0 := w7) (B := w.heap.size) (a := .int .i64 V) (b := .int .i64 1) (c := .slice A7 ys.length c7) own7 (row_ne' own7.1 q7 (by decide)) (Below.refl _ _) (by omega)
        have r8 := ((r7.far (a := ⟨w3.heap.size, 0, none⟩) (by show w.heap.size ≠ w3.heap.size; omega) (.int .i64 V)).far (a := ⟨w3.heap.size, 1, none⟩) (by show w.heap.size ≠ w3.heap.size; omega) (.int .i64 1)).far (a := ⟨w3.heap.size, 2, none⟩) (by show w.heap.size ≠ w3.heap.size; omega) (.slice A7 ys.length c7)
        have hc8 := hc7.below F8.2 hpw
        have HG8 := Lib.hid (grown_own HG7.out F8.2)
        have own8 := F8.1
        clear F8
        have f0 := q8.cell 0
        have f1 := q8.cell 1
        have f2 := q8.cell 2
        have g0 := r8.cell 0
        have g1 := r8.cell 1
        have g2 := r8.cell 2
        have z0 := r8.frozen 0
        have z1 := r8.frozen 1
        have z2 := r8.frozen 2
        have F := fin3 (p := w.heap.size) (w0 := (((w7.setCell ⟨w3.heap.size, 0, none⟩ (.int .i64 V)).setCell ⟨w3.heap.size, 1, none⟩ (.int .i64 1)).setCell ⟨w3.heap.size, 2, none⟩ (.slice A7 ys.length c7))) (B := w.heap.size) (a := .int .i64 (V : Int)) (b := .int .i64 1) (c := .slice A7 ys.length c7) own8 (row_ne' own8.1 r8 (by decide)) (Below.refl _ _) (Nat.le_refl _)
        have hcF := (hc8.below F.2 hpw).more (show _ ≤ k + 1000 by omega)
        have hGF := grown_own HG8.out F.2
        have F1 := F.1
        clear F
        go_wp2
        refine bodyPost_ret (v := chartV (V : Int) 1 (.slice A7 ys.length c7)) (by simp [results, Try.results26, go_sem, g0, g1, g2]) rfl ⟨(V : Int), 1, A7, c7, ys, rfl, ⟨by omega, by unfold Side9; omega, by unfold Side9; omega⟩, F1, hcF, hGF⟩
      · have hx2' : (x == 2) = false := by simpa using hx2
        replace own5 := own5.mono (show w.heap.size ≤ _ by omega)
        have f0 := q5.cell 0
        have f1 := q5.cell 1
        have f2 := q5.cell 2
        have g0 := r5.cell 0
        have g1 := r5.cell 1
        have g2 := r5.cell 2
        have z0 := r5.frozen 0
        have z1 := r5.frozen 1
        have z2 := r5.frozen 2
        have F := fin3 (p := w.heap.size) (w0 := w5) (B := w.heap.size) (a := .int .i64 (W : Int)) (b := .int .i64 (H : Int)) (c := .slice (some ⟨g, 0, none⟩) xs.length c) own5 (row_ne' own5.1 r5 (by decide)) (Below.refl _ _) (Nat.le_refl _)
        have hcF := (hc5.below F.2 hpw).more (show _ ≤ k + 1000 by omega)
        have hGF := grown_own HG5.out F.2
        have F1 := F.1
        clear F
        go_wp2
        refine bodyPost_ret (v := chartV (W : Int) (H : Int) (.slice (some ⟨g, 0, none⟩) xs.length c)) (by simp [results, Try.results26, go_sem, g0, g1, g2]) rfl ⟨(W : Int), (H : Int), (some ⟨g, 0, none⟩), c, xs, rfl, ⟨by omega, by unfold Side9; omega, by unfold Side9; omega⟩, F1, hcF, hGF⟩
theorem chart_any (p k : Nat) (w : World) (h : Cur w p k) (hk : k + 1000 ≤ 4294967296) : Calls Try.prog 26 #[.pointer (some ⟨p, 0, none⟩)] w (DrewChart w p (k + 1000) fun W H xs => xs.length ≤ 1000 ∧ I64 W ∧ I64 H) := by
  refine (chart_any9 p k w h hk).mono ?_
  rintro e w' ⟨W, H, A, c, xs, he, ⟨h1, h2, h3⟩, ho, hc, hg⟩
  exact ⟨W, H, A, c, xs, he, ⟨h1, h2.fit, h3.fit⟩, ho, hc, hg⟩
end Go.Proofs.Ytgkflgfjbaobcaa
