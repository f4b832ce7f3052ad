/- The walk of the cursor's photo: a plan and a photograph that is mostly near it. Condition: few draws. -/
import Derived.Test.YtgkflgfjbaobcaaDrawBase
import Derived.Test.YtgkflgfjbaobcaaPhotoS
namespace Go.Proofs.Ytgkflgfjbaobcaa
open Go.RowKit

/-- Two charts drawn. -/
def DrewTwo (w : World) (p k : Nat) (e : Ending) (w' : World) : Prop := ∃ (W H : Int) (A : Option Addr) (c : Nat) (xs : List Int) (W' H' : Int) (A' : Option Addr) (c' : Nat) (ys : List Int), e = .returned (.tuple #[chartV W H (.slice A xs.length c), chartV W' H' (.slice A' ys.length c')]) ∧ Small W H xs ∧ Small W' H' ys ∧ Own w' w.heap.size (.slice A xs.length c) xs ∧ Own w' w.heap.size (.slice A' ys.length c') ys ∧ Cur w' p k ∧ w.grownBy w' (some p)
theorem Blk.far3q {w : World} {p q : Nat} {t : TypeId} {cs : Array Value} {a b c : Value} (h : Blk w q t cs) (hp : q ≠ p) : Blk (((w.setCell ⟨p, 0, none⟩ a).setCell ⟨p, 1, none⟩ b).setCell ⟨p, 2, none⟩ c) q t cs :=
  ((h.far (a := ⟨p, 0, none⟩) hp a).far (a := ⟨p, 1, none⟩) hp b).far (a := ⟨p, 2, none⟩) hp c
theorem Blk.put3q {w : World} {p : Nat} {t : TypeId} {a b c : Value} (h : Blk w p t #[a, b, c]) (a' b' c' : Value) : Blk (((w.setCell ⟨p, 0, none⟩ a').setCell ⟨p, 1, none⟩ b').setCell ⟨p, 2, none⟩ c') p t #[a', b', c'] := by
  have := ((h.set_ 0 a').set_ 1 b').set_ 2 c'
  simpa using this
theorem knot_put {w : World} {g j c lo : Nat} {xs : List Int} {x : Int} (h : Own w lo (.slice (some ⟨g, 0, none⟩) xs.length c) xs) (hj : j < xs.length) (hx : I64 x) :
    (∃ v, w.cell? ⟨g, j, none⟩ = some v) ∧ w.frozen? ⟨g, j, none⟩ = false ∧ Own (w.setCell ⟨g, j, none⟩ (.int .i64 x)) lo (.slice (some ⟨g, 0, none⟩) (xs.set j x).length c) (xs.set j x) ∧ w.grownBy (w.setCell ⟨g, j, none⟩ (.int .i64 x)) (some g) := by
  have HS := h.1.stored j (.int .i64 x)
  refine ⟨⟨_, own_at h hj rfl⟩, h.1.frozenAt _, ⟨?_, fun y hy => ?_⟩, HS.2⟩
  · rw [List.length_set, List.map_set]
    exact HS.1
  · rcases List.mem_or_eq_of_mem_set hy with hy | rfl
    · exact h.2 y hy
    · exact hx
theorem ph_small {W H : Int} {xs : List Int} (d a col : Int) (h : Small W H xs) : Small (orZero (phOk W H xs d a col) W) (orZero (phOk W H xs d a col) H) (phX W H xs d a col) ∧ (phOk W H xs d a col = true → (phX W H xs d a col).length = xs.length) := by
  cases hok : phOk W H xs d a col with
  | false =>
    rw [phX_no hok]
    exact ⟨⟨by simp, ⟨by simp [orZero], by simp [orZero]⟩, ⟨by simp [orZero], by simp [orZero]⟩⟩, fun h => by cases h⟩
  | true =>
    have hl : (phX W H xs d a col).length = xs.length := by
      unfold phX
      rw [if_pos hok]
      simp [phL]
    simp only [orZero, if_true]
    exact ⟨⟨by rw [hl]; exact h.1, h.2⟩, fun _ => hl⟩
theorem good_pos {W H : Int} {xs : List Int} (h : goodB W H xs = true) : 1 ≤ xs.length := by
  obtain ⟨m, k, e1, e2, m1, m8, k1, k8, hl, _, _, hc⟩ := good_nat h
  have hm1 : 1 * 1 ≤ m * k := Nat.mul_le_mul m1 k1
  have := hl.out
  omega
set_option maxRecDepth 100000 in
set_option maxHeartbeats 32000000 in
theorem photo_any (p k : Nat) (w : World) (h : Cur w p k) (hk : k + 4000 ≤ 4294967296) : Calls Try.prog 18 #[.pointer (some ⟨p, 0, none⟩)] w (DrewTwo w p (k + 4000)) := by
  have hpw := h.lt
  have hb0 := ((Below.refl w.heap.size w).alloc (Nat.le_refl _) (.cells #[.int .i64 0, .int .i64 0, .slice none 0 0] 26)).alloc (by simp) (.cells #[.int .i64 0, .int .i64 0, .slice none 0 0] 26)
  have HG0 := Lib.hid (below_grown (row := some p) hb0)
  have hc0 := h.all hb0
  have r0 := (Blk.new w #[.int .i64 0, .int .i64 0, .slice none 0 0] 26).alloc (.cells #[.int .i64 0, .int .i64 0, .slice none 0 0] 26)
  have s0 := (Blk.new (w.alloc (.cells #[.int .i64 0, .int .i64 0, .slice none 0 0] 26)) #[.int .i64 0, .int .i64 0, .slice none 0 0] 26).at_ (q := w.heap.size + 1) (by simp)
  clear h hb0
  go_enter Try.func18, Try.ntmps18
  go_wp2_with fail
  refine (chart_any p k _ hc0 (by omega)).mono ?_
  rintro e w1 ⟨W, H, A1, c1, xs, rfl, hsm, own, hc1, hg1⟩
  have r1 := r0.mark hg1 (fun z hz => by cases hz; omega)
  have s1 := s0.mark hg1 (fun z hz => by cases hz; omega)
  have HG1 := Lib.hid (grown_trans HG0.out hg1)
  have hs2 : w.heap.size + 2 ≤ w1.heap.size := by have := hg1.size; simpa using this
  replace own := own.mono (show w.heap.size ≤ _ by simp; omega)
  clear hc0 hg1 r0 s0 HG0
  have hal := (Below.refl w1.heap.size w1).alloc (Nat.le_refl _) (.cells #[.int .i64 W, .int .i64 H, .slice A1 xs.length c1] 26)
  have BmF := Blk.new w1 #[.int .i64 W, .int .i64 H, .slice A1 xs.length c1] 26
  have cF := hc1.all hal
  have R2F := r1.all hal
  have R3F := s1.all hal
  have OF := own.all hal
  have gF := grown_trans HG1.out (below_grown (row := some p) hal)
  have hne1 : ∀ z', (Value.slice A1 xs.length c1).ownBlock = some z' → z' ≠ p := fun z' hz' => by have := (own.bd z' hz').1; omega
  clear hc1 r1 s1 own HG1 hal
  go_wp2_with fail
  obtain ⟨wX, hwX⟩ : ∃ v, w1.alloc (.cells #[.int .i64 W, .int .i64 H, .slice A1 xs.length c1] 26) = v := ⟨_, rfl⟩
  rw [hwX] at BmF cF R2F R3F OF gF ⊢
  obtain ⟨Q4, hQ4⟩ : ∃ q, w1.heap.size = q := ⟨_, rfl⟩
  rw [hQ4] at BmF hs2 ⊢
  clear hwX hQ4
  refine (l2Good_any W H A1 _ c1 _ xs _ OF.rd (Nat.le_refl _)).mono ?_
  rintro e wG ⟨rfl, hb⟩
  replace BmF := BmF.all hb
  replace R2F := R2F.all hb
  replace R3F := R3F.all hb
  replace OF := OF.all hb
  replace cF := cF.all hb
  replace gF := grown_trans gF (below_grown (row := some p) hb)
  clear hb
  obtain ⟨gd, hgd⟩ : ∃ b, goodB W H xs = b := ⟨_, rfl⟩
  rw [hgd]
  cases gd with
  | false =>
    clear hgd
    have ex00 := BmF.cell 0
    have ex01 := BmF.cell 1
    have ex02 := BmF.cell 2
    go_wp2
    refine wp_region_noPanic ?_
    refine wp_region_held_drew (S := (fun w' => w'.cell? ⟨Q4, 0, none⟩ = some (.int .i64 W) ∧ w'.cell? ⟨Q4, 1, none⟩ = some (.int .i64 H) ∧ w'.cell? ⟨Q4, 2, none⟩ = some (.slice A1 xs.length c1))) (by kernel_rfl) (by go_keep) (fun hHeld => ?_)
    have cFz := cur_drew cF
    have BmFz : Blk wG.drew _ _ _ := BmF.all (low_drewN wG 1)
    have R2Fz : Blk wG.drew _ _ _ := R2F.all (low_drewN wG 1)
    have R3Fz : Blk wG.drew _ _ _ := R3F.all (low_drewN wG 1)
    have OFz : Own wG.drew _ _ _ := OF.all (low_drewN wG 1)
    have gFz := grown_trans gF (drew_grown _ _)
    obtain ⟨wdT1, hwd⟩ : ∃ v, wG.drew = v := ⟨_, rfl⟩
    rw [hwd] at hHeld cFz BmFz R2Fz R3Fz OFz gFz ⊢
    clear hwd
    refine wpAnyH_take (i := 0) (v := ?_) rfl (by kernel_rfl) (by kernel_rfl) (by kernel_rfl) (fun _ _ _ h => h) (Or.inl ⟨by rfl, ?_⟩) (by assumption) ?_
    rotate_left
    · intro w hSw; (try dsimp only at hSw); go_simp; (try with_reducible rfl)
    (try simp only [Act.put, List.getElem_toArray, List.getElem_cons_zero, List.setIfInBounds_toArray, List.set_cons_zero, List.set_cons_succ])
    refine wpAnyH_take (i := 1) (v := ?_) rfl (by kernel_rfl) (by kernel_rfl) (by kernel_rfl) (fun _ _ _ h => h) (Or.inl ⟨by rfl, ?_⟩) (by assumption) ?_
    rotate_left
    · intro w hSw; (try dsimp only at hSw); go_simp; (try with_reducible rfl)
    (try simp only [Act.put, List.getElem_toArray, List.getElem_cons_zero, List.getElem_cons_succ, List.setIfInBounds_toArray, List.set_cons_zero, List.set_cons_succ])
    clear hHeld
    refine wpAnyH_ready (rs := [2]) (by kernel_rfl) (by simp) ?_
    refine AllReadyH.cons rfl (fun K hK => ?_) AllReadyH.nil
    go_simp
    refine (chart_any p (k + 1000) _ cFz (by omega)).mono ?_
    rintro e wq1001 ⟨W7, H7, A7, c7, ys, rfl, hsm7, own7, hc, hg⟩
    replace own7 := own7.mono (show w.heap.size ≤ _ from gFz.size)
    clear cFz
    have cFz := hc
    replace BmFz := BmFz.mark hg (fun z hz => by cases hz; omega)
    replace R2Fz := R2Fz.mark hg (fun z hz => by cases hz; omega)
    replace R3Fz := R3Fz.mark hg (fun z hz => by cases hz; omega)
    replace OFz := OFz.mark hg (fun z z' hz hz' => by cases hz; exact fun e => hne1 z' hz' e.symm)
    replace gFz := grown_trans gFz hg
    clear hc hg
    refine hK.out _ _ (by exact ⟨BmFz.cell 0, BmFz.cell 1, BmFz.cell 2⟩) (fun hHeld => ?_)
    clear hK K
    (try simp only [Act.put, List.getElem_toArray, List.getElem_cons_zero, List.getElem_cons_succ, List.setIfInBounds_toArray, List.set_cons_zero, List.set_cons_succ])
    clear hHeld
    refine wpAnyH_ready (rs := [3]) (by kernel_rfl) (by simp) ?_
    refine AllReadyH.cons rfl (fun K hK => ?_) AllReadyH.nil
    have g0 := R2Fz.cell 0
    have g1 := R2Fz.cell 1
    have g2 := R2Fz.cell 2
    have z0 := R2Fz.frozen 0
    have z1 := R2Fz.frozen 1
    have z2 := R2Fz.frozen 2
    have F_OF := fin3 (p := w.heap.size) (w0 := wq1001) (B := w.heap.size) (a := .int .i64 W) (b := .int .i64 H) (c := .slice A1 xs.length c1) OFz (row_ne' OFz.1 R2Fz (by decide)) (Below.refl _ _) (by omega)
    have F_O7 := fin3 (p := w.heap.size) (w0 := wq1001) (B := w.heap.size) (a := .int .i64 W) (b := .int .i64 H) (c := .slice A1 xs.length c1) own7 (row_ne' own7.1 R2Fz (by decide)) (Below.refl _ _) (by omega)
    have cFzs := cFz.below F_OF.2 hpw
    have gFzs := grown_own gFz F_OF.2
    have BmFzs := BmFz.far3q (p := w.heap.size) (a := .int .i64 W) (b := .int .i64 H) (c := .slice A1 xs.length c1) (by omega)
    have R2Fzs := R2Fz.put3q (.int .i64 W) (.int .i64 H) (.slice A1 xs.length c1)
    have R3Fzs := R3Fz.far3q (p := w.heap.size) (a := .int .i64 W) (b := .int .i64 H) (c := .slice A1 xs.length c1) (by omega)
    clear cFz gFz BmFz R2Fz R3Fz OFz own7
    go_simp
    obtain ⟨ws1002, hws⟩ : ∃ v, ((wq1001.setCell ⟨w.heap.size, 0, none⟩ (.int .i64 W)).setCell ⟨w.heap.size, 1, none⟩ (.int .i64 H)).setCell ⟨w.heap.size, 2, none⟩ (.slice A1 xs.length c1) = v := ⟨_, rfl⟩
    rw [hws] at cFzs gFzs BmFzs R2Fzs R3Fzs F_OF F_O7 ⊢
    clear hws g0 g1 g2 z0 z1 z2
    have OFzs := F_OF.1
    have own7s := F_O7.1
    clear F_OF F_O7
    refine hK.out _ _ (by exact ⟨BmFzs.cell 0, BmFzs.cell 1, BmFzs.cell 2⟩) (fun hHeld => ?_)
    clear hK K
    (try simp only [Act.put, List.getElem_toArray, List.getElem_cons_zero, List.getElem_cons_succ, List.setIfInBounds_toArray, List.set_cons_zero, List.set_cons_succ])
    clear hHeld
    refine wpAnyH_ready (rs := [4]) (by kernel_rfl) (by simp) ?_
    refine AllReadyH.cons rfl (fun K hK => ?_) AllReadyH.nil
    have g0 := R3Fzs.cell 0
    have g1 := R3Fzs.cell 1
    have g2 := R3Fzs.cell 2
    have z0 := R3Fzs.frozen 0
    have z1 := R3Fzs.frozen 1
    have z2 := R3Fzs.frozen 2
    have F_OF := fin3 (p := (w.heap.size + 1)) (w0 := ws1002) (B := w.heap.size) (a := .int .i64 W7) (b := .int .i64 H7) (c := .slice A7 ys.length c7) OFzs (row_ne' OFzs.1 R3Fzs (by decide)) (Below.refl _ _) (by omega)
    have F_O7 := fin3 (p := (w.heap.size + 1)) (w0 := ws1002) (B := w.heap.size) (a := .int .i64 W7) (b := .int .i64 H7) (c := .slice A7 ys.length c7) own7s (row_ne' own7s.1 R3Fzs (by decide)) (Below.refl _ _) (by omega)
    have cFzss := cFzs.below F_OF.2 hpw
    have gFzss := grown_own gFzs F_OF.2
    have BmFzss := BmFzs.far3q (p := (w.heap.size + 1)) (a := .int .i64 W7) (b := .int .i64 H7) (c := .slice A7 ys.length c7) (by omega)
    have R2Fzss := R2Fzs.far3q (p := (w.heap.size + 1)) (a := .int .i64 W7) (b := .int .i64 H7) (c := .slice A7 ys.length c7) (by omega)
    have R3Fzss := R3Fzs.put3q (.int .i64 W7) (.int .i64 H7) (.slice A7 ys.length c7)
    clear cFzs gFzs BmFzs R2Fzs R3Fzs OFzs own7s
    go_simp
    obtain ⟨ws1003, hws⟩ : ∃ v, ((ws1002.setCell ⟨(w.heap.size + 1), 0, none⟩ (.int .i64 W7)).setCell ⟨(w.heap.size + 1), 1, none⟩ (.int .i64 H7)).setCell ⟨(w.heap.size + 1), 2, none⟩ (.slice A7 ys.length c7) = v := ⟨_, rfl⟩
    rw [hws] at cFzss gFzss BmFzss R2Fzss R3Fzss F_OF F_O7 ⊢
    clear hws g0 g1 g2 z0 z1 z2
    have OFzss := F_OF.1
    have own7ss := F_O7.1
    clear F_OF F_O7
    refine hK.out _ _ (by exact ⟨BmFzss.cell 0, BmFzss.cell 1, BmFzss.cell 2⟩) (fun hHeld => ?_)
    clear hK K
    (try simp only [Act.put, List.getElem_toArray, List.getElem_cons_zero, List.getElem_cons_succ, List.setIfInBounds_toArray, List.set_cons_zero, List.set_cons_succ])
    refine wpAnyH_done (by kernel_rfl) ?_ _
    refine NoPanic.normal ?_
    have g0 := R2Fzss.cell 0
    have g1 := R2Fzss.cell 1
    have g2 := R2Fzss.cell 2
    have k0 := R3Fzss.cell 0
    have k1 := R3Fzss.cell 1
    have k2 := R3Fzss.cell 2
    go_wp2
    exact bodyPost_ret (v := .tuple #[chartV W H (.slice A1 xs.length c1), chartV W7 H7 (.slice A7 ys.length c7)]) (by simp [results, Try.results18, go_sem, g0, g1, g2, k0, k1, k2]) rfl ⟨W, H, A1, c1, xs, W7, H7, A7, c7, ys, rfl, hsm, hsm7, OFzss, own7ss, cFzss.more (by omega), gFzss⟩
  | true =>
    have hx1 := good_pos hgd
    clear hgd
    go_wp2_with fail
    refine (one_any p (k + 1000) 8 _ cF (by omega) (by omega) (by omega)).mono ?_
    rintro e wu0 ⟨d, rfl, hc, hg⟩
    replace BmF := BmF.mark hg (fun z hz => by cases hz; omega)
    replace R2F := R2F.mark hg (fun z hz => by cases hz; omega)
    replace R3F := R3F.mark hg (fun z hz => by cases hz; omega)
    replace OF := OF.mark hg (fun z z' hz hz' => by cases hz; exact fun e => hne1 z' hz' e.symm)
    replace gF := grown_trans gF hg
    replace cF := hc
    clear hc hg
    cases d with
    | true =>
      have ex00 := BmF.cell 0
      have ex01 := BmF.cell 1
      have ex02 := BmF.cell 2
      go_wp2
      refine wp_region_noPanic ?_
      refine wp_region_held_drew (S := (fun w' => w'.cell? ⟨Q4, 0, none⟩ = some (.int .i64 W) ∧ w'.cell? ⟨Q4, 1, none⟩ = some (.int .i64 H) ∧ w'.cell? ⟨Q4, 2, none⟩ = some (.slice A1 xs.length c1))) (by kernel_rfl) (by go_keep) (fun hHeld => ?_)
      have cFz := cur_drew cF
      have BmFz : Blk wu0.drew _ _ _ := BmF.all (low_drewN wu0 1)
      have R2Fz : Blk wu0.drew _ _ _ := R2F.all (low_drewN wu0 1)
      have R3Fz : Blk wu0.drew _ _ _ := R3F.all (low_drewN wu0 1)
      have OFz : Own wu0.drew _ _ _ := OF.all (low_drewN wu0 1)
      have gFz := grown_trans gF (drew_grown _ _)
      obtain ⟨wdT2, hwd⟩ : ∃ v, wu0.drew = v := ⟨_, rfl⟩
      rw [hwd] at hHeld cFz BmFz R2Fz R3Fz OFz gFz ⊢
      clear hwd
      refine wpAnyH_take (i := 0) (v := ?_) rfl (by kernel_rfl) (by kernel_rfl) (by kernel_rfl) (fun _ _ _ h => h) (Or.inl ⟨by rfl, ?_⟩) (by assumption) ?_
      rotate_left
      · intro w hSw; (try dsimp only at hSw); go_simp; (try with_reducible rfl)
      (try simp only [Act.put, List.getElem_toArray, List.getElem_cons_zero, List.setIfInBounds_toArray, List.set_cons_zero, List.set_cons_succ])
      refine wpAnyH_take (i := 1) (v := ?_) rfl (by kernel_rfl) (by kernel_rfl) (by kernel_rfl) (fun _ _ _ h => h) (Or.inl ⟨by rfl, ?_⟩) (by assumption) ?_
      rotate_left
      · intro w hSw; (try dsimp only at hSw); go_simp; (try with_reducible rfl)
      (try simp only [Act.put, List.getElem_toArray, List.getElem_cons_zero, List.getElem_cons_succ, List.setIfInBounds_toArray, List.set_cons_zero, List.set_cons_succ])
      clear hHeld
      refine wpAnyH_ready (rs := [2]) (by kernel_rfl) (by simp) ?_
      refine AllReadyH.cons rfl (fun K hK => ?_) AllReadyH.nil
      go_simp
      refine (chart_any p (k + 1000 + 2) _ cFz (by omega)).mono ?_
      rintro e wq2001 ⟨W7, H7, A7, c7, ys, rfl, hsm7, own7, hc, hg⟩
      replace own7 := own7.mono (show w.heap.size ≤ _ from gFz.size)
      clear cFz
      have cFz := hc
      replace BmFz := BmFz.mark hg (fun z hz => by cases hz; omega)
      replace R2Fz := R2Fz.mark hg (fun z hz => by cases hz; omega)
      replace R3Fz := R3Fz.mark hg (fun z hz => by cases hz; omega)
      replace OFz := OFz.mark hg (fun z z' hz hz' => by cases hz; exact fun e => hne1 z' hz' e.symm)
      replace gFz := grown_trans gFz hg
      clear hc hg
      refine hK.out _ _ (by exact ⟨BmFz.cell 0, BmFz.cell 1, BmFz.cell 2⟩) (fun hHeld => ?_)
      clear hK K
      (try simp only [Act.put, List.getElem_toArray, List.getElem_cons_zero, List.getElem_cons_succ, List.setIfInBounds_toArray, List.set_cons_zero, List.set_cons_succ])
      clear hHeld
      refine wpAnyH_ready (rs := [3]) (by kernel_rfl) (by simp) ?_
      refine AllReadyH.cons rfl (fun K hK => ?_) AllReadyH.nil
      have g0 := R2Fz.cell 0
      have g1 := R2Fz.cell 1
      have g2 := R2Fz.cell 2
      have z0 := R2Fz.frozen 0
      have z1 := R2Fz.frozen 1
      have z2 := R2Fz.frozen 2
      have F_OF := fin3 (p := w.heap.size) (w0 := wq2001) (B := w.heap.size) (a := .int .i64 W) (b := .int .i64 H) (c := .slice A1 xs.length c1) OFz (row_ne' OFz.1 R2Fz (by decide)) (Below.refl _ _) (by omega)
      have F_O7 := fin3 (p := w.heap.size) (w0 := wq2001) (B := w.heap.size) (a := .int .i64 W) (b := .int .i64 H) (c := .slice A1 xs.length c1) own7 (row_ne' own7.1 R2Fz (by decide)) (Below.refl _ _) (by omega)
      have cFzs := cFz.below F_OF.2 hpw
      have gFzs := grown_own gFz F_OF.2
      have BmFzs := BmFz.far3q (p := w.heap.size) (a := .int .i64 W) (b := .int .i64 H) (c := .slice A1 xs.length c1) (by omega)
      have R2Fzs := R2Fz.put3q (.int .i64 W) (.int .i64 H) (.slice A1 xs.length c1)
      have R3Fzs := R3Fz.far3q (p := w.heap.size) (a := .int .i64 W) (b := .int .i64 H) (c := .slice A1 xs.length c1) (by omega)
      clear cFz gFz BmFz R2Fz R3Fz OFz own7
      go_simp
      obtain ⟨ws2002, hws⟩ : ∃ v, ((wq2001.setCell ⟨w.heap.size, 0, none⟩ (.int .i64 W)).setCell ⟨w.heap.size, 1, none⟩ (.int .i64 H)).setCell ⟨w.heap.size, 2, none⟩ (.slice A1 xs.length c1) = v := ⟨_, rfl⟩
      rw [hws] at cFzs gFzs BmFzs R2Fzs R3Fzs F_OF F_O7 ⊢
      clear hws g0 g1 g2 z0 z1 z2
      have OFzs := F_OF.1
      have own7s := F_O7.1
      clear F_OF F_O7
      refine hK.out _ _ (by exact ⟨BmFzs.cell 0, BmFzs.cell 1, BmFzs.cell 2⟩) (fun hHeld => ?_)
      clear hK K
      (try simp only [Act.put, List.getElem_toArray, List.getElem_cons_zero, List.getElem_cons_succ, List.setIfInBounds_toArray, List.set_cons_zero, List.set_cons_succ])
      clear hHeld
      refine wpAnyH_ready (rs := [4]) (by kernel_rfl) (by simp) ?_
      refine AllReadyH.cons rfl (fun K hK => ?_) AllReadyH.nil
      have g0 := R3Fzs.cell 0
      have g1 := R3Fzs.cell 1
      have g2 := R3Fzs.cell 2
      have z0 := R3Fzs.frozen 0
      have z1 := R3Fzs.frozen 1
      have z2 := R3Fzs.frozen 2
      have F_OF := fin3 (p := (w.heap.size + 1)) (w0 := ws2002) (B := w.heap.size) (a := .int .i64 W7) (b := .int .i64 H7) (c := .slice A7 ys.length c7) OFzs (row_ne' OFzs.1 R3Fzs (by decide)) (Below.refl _ _) (by omega)
      have F_O7 := fin3 (p := (w.heap.size + 1)) (w0 := ws2002) (B := w.heap.size) (a := .int .i64 W7) (b := .int .i64 H7) (c := .slice A7 ys.length c7) own7s (row_ne' own7s.1 R3Fzs (by decide)) (Below.refl _ _) (by omega)
      have cFzss := cFzs.below F_OF.2 hpw
      have gFzss := grown_own gFzs F_OF.2
      have BmFzss := BmFzs.far3q (p := (w.heap.size + 1)) (a := .int .i64 W7) (b := .int .i64 H7) (c := .slice A7 ys.length c7) (by omega)
      have R2Fzss := R2Fzs.far3q (p := (w.heap.size + 1)) (a := .int .i64 W7) (b := .int .i64 H7) (c := .slice A7 ys.length c7) (by omega)
      have R3Fzss := R3Fzs.put3q (.int .i64 W7) (.int .i64 H7) (.slice A7 ys.length c7)
      clear cFzs gFzs BmFzs R2Fzs R3Fzs OFzs own7s
      go_simp
      obtain ⟨ws2003, hws⟩ : ∃ v, ((ws2002.setCell ⟨(w.heap.size + 1), 0, none⟩ (.int .i64 W7)).setCell ⟨(w.heap.size + 1), 1, none⟩ (.int .i64 H7)).setCell ⟨(w.heap.size + 1), 2, none⟩ (.slice A7 ys.length c7) = v := ⟨_, rfl⟩
      rw [hws] at cFzss gFzss BmFzss R2Fzss R3Fzss F_OF F_O7 ⊢
      clear hws g0 g1 g2 z0 z1 z2
      have OFzss := F_OF.1
      have own7ss := F_O7.1
      clear F_OF F_O7
      refine hK.out _ _ (by exact ⟨BmFzss.cell 0, BmFzss.cell 1, BmFzss.cell 2⟩) (fun hHeld => ?_)
      clear hK K
      (try simp only [Act.put, List.getElem_toArray, List.getElem_cons_zero, List.getElem_cons_succ, List.setIfInBounds_toArray, List.set_cons_zero, List.set_cons_succ])
      refine wpAnyH_done (by kernel_rfl) ?_ _
      refine NoPanic.normal ?_
      have g0 := R2Fzss.cell 0
      have g1 := R2Fzss.cell 1
      have g2 := R2Fzss.cell 2
      have k0 := R3Fzss.cell 0
      have k1 := R3Fzss.cell 1
      have k2 := R3Fzss.cell 2
      go_wp2
      exact bodyPost_ret (v := .tuple #[chartV W H (.slice A1 xs.length c1), chartV W7 H7 (.slice A7 ys.length c7)]) (by simp [results, Try.results18, go_sem, g0, g1, g2, k0, k1, k2]) rfl ⟨W, H, A1, c1, xs, W7, H7, A7, c7, ys, rfl, hsm, hsm7, OFzss, own7ss, cFzss.more (by omega), gFzss⟩
    | false =>
      have ex00 := BmF.cell 0
      have ex01 := BmF.cell 1
      have ex02 := BmF.cell 2
      go_wp2_with fail
      clear ex00 ex01 ex02
      refine (l2Own_any W H A1 _ c1 _ xs _ OF.rd (Nat.le_refl _) (by have := hsm.1; omega)).mono ?_
      rintro e wO ⟨A6, c6, rfl, O6F, hb⟩
      have hne6 : ∀ z', (Value.slice A6 xs.length c6).ownBlock = some z' → z' ≠ p := fun z' hz' => by have h1 := (O6F.bd z' hz').1; have h2 := cF.lt; omega
      have hdis : ∀ z z', (Value.slice A1 xs.length c1).ownBlock = some z → (Value.slice A6 xs.length c6).ownBlock = some z' → z ≠ z' := fun z z' hz hz' => by have h1 := (O6F.bd z' hz').1; have h2 := (OF.bd z hz).2; omega
      have hQ45 : Q4 < wO.heap.size := by have h1 := BmF.lt; have h2 := hb.size; omega
      replace O6F := O6F.mono (show w.heap.size ≤ _ from gF.size)
      replace BmF := BmF.all hb
      replace R2F := R2F.all hb
      replace R3F := R3F.all hb
      replace OF := OF.all hb
      replace cF := cF.all hb
      replace gF := grown_trans gF (below_grown (row := some p) hb)
      clear hb
      have hb := (Below.refl wO.heap.size wO).alloc (Nat.le_refl _) (.cells #[.int .i64 W, .int .i64 H, .slice A6 xs.length c6] 26)
      have YmF := Blk.new wO #[.int .i64 W, .int .i64 H, .slice A6 xs.length c6] 26
      replace BmF := BmF.all hb
      replace R2F := R2F.all hb
      replace R3F := R3F.all hb
      replace OF := OF.all hb
      replace O6F := O6F.all hb
      replace cF := cF.all hb
      replace gF := grown_trans gF (below_grown (row := some p) hb)
      clear hb
      go_wp2_with fail
      obtain ⟨wY, hwY⟩ : ∃ v, wO.alloc (.cells #[.int .i64 W, .int .i64 H, .slice A6 xs.length c6] 26) = v := ⟨_, rfl⟩
      rw [hwY] at BmF YmF cF R2F R3F OF O6F gF ⊢
      obtain ⟨Q5, hQ5⟩ : ∃ q, wO.heap.size = q := ⟨_, rfl⟩
      rw [hQ5] at YmF hQ45 ⊢
      clear hwY hQ5
      have ex00 := BmF.cell 0
      have ex01 := BmF.cell 1
      have ex02 := BmF.cell 2
      have ex10 := YmF.cell 0
      have ex11 := YmF.cell 1
      have ex12 := YmF.cell 2
      refine' (fun (keyT33 : Bool → (_ : Prop)) => ?main) ?keyT33
      case main =>
        refine' (fun (keyT32 : Bool → (_ : Prop)) => ?main) ?keyT32
        case main =>
          refine' (fun (keyT31 : Bool → (_ : Prop)) => ?main) ?keyT31
          case main =>
            refine' (fun (keyT30 : Bool → (_ : Prop)) => ?main) ?keyT30
            case main =>
              refine wp_region_noPanic ?_
              refine wp_region_held_drew (S := (fun w' => w'.cell? ⟨Q4, 0, none⟩ = some (.int .i64 W) ∧ w'.cell? ⟨Q4, 1, none⟩ = some (.int .i64 H) ∧ w'.cell? ⟨Q4, 2, none⟩ = some (.slice A1 xs.length c1))) (by kernel_rfl) (by go_keep) (fun hHeld => ?_)
              have cFz := cur_drew cF
              have BmFz : Blk wY.drew _ _ _ := BmF.all (low_drewN wY 1)
              have YmFz : Blk wY.drew _ _ _ := YmF.all (low_drewN wY 1)
              have R2Fz : Blk wY.drew _ _ _ := R2F.all (low_drewN wY 1)
              have R3Fz : Blk wY.drew _ _ _ := R3F.all (low_drewN wY 1)
              have OFz : Own wY.drew _ _ _ := OF.all (low_drewN wY 1)
              have O6Fz : Own wY.drew _ _ _ := O6F.all (low_drewN wY 1)
              have gFz := grown_trans gF (drew_grown _ _)
              obtain ⟨wdT3, hwd⟩ : ∃ v, wY.drew = v := ⟨_, rfl⟩
              rw [hwd] at hHeld cFz BmFz YmFz R2Fz R3Fz OFz O6Fz gFz ⊢
              clear hwd
              refine wpAnyH_take (i := 0) (v := ?_) rfl (by kernel_rfl) (by kernel_rfl) (by kernel_rfl) (fun _ _ _ h => h) (Or.inl ⟨by rfl, ?_⟩) (by assumption) ?_
              rotate_left
              · intro w hSw; (try dsimp only at hSw); go_simp; (try with_reducible rfl)
              (try simp only [Act.put, List.getElem_toArray, List.getElem_cons_zero, List.setIfInBounds_toArray, List.set_cons_zero, List.set_cons_succ])
              refine wpAnyH_take (i := 1) (v := ?_) rfl (by kernel_rfl) (by kernel_rfl) (by kernel_rfl) (fun _ _ _ h => h) (Or.inl ⟨by rfl, ?_⟩) (by assumption) ?_
              rotate_left
              · intro w hSw; (try dsimp only at hSw); go_simp; (try with_reducible rfl)
              (try simp only [Act.put, List.getElem_toArray, List.getElem_cons_zero, List.getElem_cons_succ, List.setIfInBounds_toArray, List.set_cons_zero, List.set_cons_succ])
              refine wpAnyH_take (i := 4) (v := ?_) rfl (by kernel_rfl) (by kernel_rfl) (by kernel_rfl) (fun _ _ _ h => h) (Or.inl ⟨by rfl, ?_⟩) (by assumption) ?_
              rotate_left
              · intro w hSw; (try dsimp only at hSw); go_simp; (try with_reducible rfl)
              (try simp only [Act.put, List.getElem_toArray, List.getElem_cons_zero, List.getElem_cons_succ, List.setIfInBounds_toArray, List.set_cons_zero, List.set_cons_succ])
              refine wpAnyH_take (i := 7) (v := ?_) rfl (by kernel_rfl) (by kernel_rfl) (by kernel_rfl) (fun _ _ _ h => h) (Or.inl ⟨by rfl, ?_⟩) (by assumption) ?_
              rotate_left
              · intro w hSw; (try dsimp only at hSw); go_simp; (try with_reducible rfl)
              (try simp only [Act.put, List.getElem_toArray, List.getElem_cons_zero, List.getElem_cons_succ, List.setIfInBounds_toArray, List.set_cons_zero, List.set_cons_succ])
              clear hHeld
              refine wpAnyH_ready (rs := [2, 13]) (by kernel_rfl) (by simp) ?_
              refine AllReadyH.cons rfl (fun K hK => ?_) ?_
              · skip
                go_simp
                refine (pick_any p (k + 1000 + 2) 5 _ cFz (by omega) (by omega) (by omega)).mono ?_
                rintro e wq3001 ⟨x2, rfl, hyx2, hc, hg⟩
                have hbx2 : 0 ≤ x2 ∧ x2 ≤ 4 := by omega
                have hwx2 : IntKind.i64.wrap (x2 - 2) = x2 - 2 := IntWalk.i64_in _ (by omega)
                clear hyx2
                clear cFz
                have cFz := hc
                replace BmFz := BmFz.mark hg (fun z hz => by cases hz; omega)
                replace YmFz := YmFz.mark hg (fun z hz => by cases hz; omega)
                replace R2Fz := R2Fz.mark hg (fun z hz => by cases hz; omega)
                replace R3Fz := R3Fz.mark hg (fun z hz => by cases hz; omega)
                replace OFz := OFz.mark hg (fun z z' hz hz' => by cases hz; exact fun e => hne1 z' hz' e.symm)
                replace O6Fz := O6Fz.mark hg (fun z z' hz hz' => by cases hz; exact fun e => hne6 z' hz' e.symm)
                replace gFz := grown_trans gFz hg
                clear hc hg
                refine hK.out _ _ (by exact ⟨BmFz.cell 0, BmFz.cell 1, BmFz.cell 2⟩) (fun hHeld => ?_)
                clear hK K
                (try simp only [Act.put, List.getElem_toArray, List.getElem_cons_zero, List.getElem_cons_succ, List.setIfInBounds_toArray, List.set_cons_zero, List.set_cons_succ])
                refine wpAnyH_take (i := 3) (v := ?_) rfl (by kernel_rfl) (by kernel_rfl) (by kernel_rfl) (fun _ _ _ h => h) (Or.inl ⟨by rfl, ?_⟩) (by assumption) ?_
                rotate_left
                · intro w hSw; (try dsimp only at hSw); go_simp; (try with_reducible rfl)
                (try simp only [Act.put, List.getElem_toArray, List.getElem_cons_zero, List.getElem_cons_succ, List.setIfInBounds_toArray, List.set_cons_zero, List.set_cons_succ])
                clear hHeld
                refine wpAnyH_ready (rs := [5, 13]) (by kernel_rfl) (by simp) ?_
                refine AllReadyH.cons rfl (fun K hK => ?_) ?_
                · skip
                  go_simp
                  refine (pick_any p ((k + 1000 + 2) + 2) 5 _ cFz (by omega) (by omega) (by omega)).mono ?_
                  rintro e wq3002 ⟨x5, rfl, hyx5, hc, hg⟩
                  have hbx5 : 0 ≤ x5 ∧ x5 ≤ 4 := by omega
                  have hwx5 : IntKind.i64.wrap (x5 - 2) = x5 - 2 := IntWalk.i64_in _ (by omega)
                  clear hyx5
                  clear cFz
                  have cFz := hc
                  replace BmFz := BmFz.mark hg (fun z hz => by cases hz; omega)
                  replace YmFz := YmFz.mark hg (fun z hz => by cases hz; omega)
                  replace R2Fz := R2Fz.mark hg (fun z hz => by cases hz; omega)
                  replace R3Fz := R3Fz.mark hg (fun z hz => by cases hz; omega)
                  replace OFz := OFz.mark hg (fun z z' hz hz' => by cases hz; exact fun e => hne1 z' hz' e.symm)
                  replace O6Fz := O6Fz.mark hg (fun z z' hz hz' => by cases hz; exact fun e => hne6 z' hz' e.symm)
                  replace gFz := grown_trans gFz hg
                  clear hc hg
                  refine hK.out _ _ (by exact ⟨BmFz.cell 0, BmFz.cell 1, BmFz.cell 2⟩) (fun hHeld => ?_)
                  clear hK K
                  (try simp only [Act.put, List.getElem_toArray, List.getElem_cons_zero, List.getElem_cons_succ, List.setIfInBounds_toArray, List.set_cons_zero, List.set_cons_succ])
                  refine wpAnyH_take (i := 6) (v := ?_) rfl (by kernel_rfl) (by kernel_rfl) (by kernel_rfl) (fun _ _ _ h => h) (Or.inl ⟨by rfl, ?_⟩) (by assumption) ?_
                  rotate_left
                  · intro w hSw; (try dsimp only at hSw); go_simp; (try with_reducible rfl)
                  (try simp only [Act.put, List.getElem_toArray, List.getElem_cons_zero, List.getElem_cons_succ, List.setIfInBounds_toArray, List.set_cons_zero, List.set_cons_succ])
                  clear hHeld
                  refine wpAnyH_ready (rs := [8, 13]) (by kernel_rfl) (by simp) ?_
                  refine AllReadyH.cons rfl (fun K hK => ?_) ?_
                  · skip
                    go_simp
                    refine (pick_any p (((k + 1000 + 2) + 2) + 2) 3 _ cFz (by omega) (by omega) (by omega)).mono ?_
                    rintro e wq3003 ⟨x8, rfl, hyx8, hc, hg⟩
                    have hbx8 : 0 ≤ x8 ∧ x8 ≤ 2 := by omega
                    clear hyx8
                    clear cFz
                    have cFz := hc
                    replace BmFz := BmFz.mark hg (fun z hz => by cases hz; omega)
                    replace YmFz := YmFz.mark hg (fun z hz => by cases hz; omega)
                    replace R2Fz := R2Fz.mark hg (fun z hz => by cases hz; omega)
                    replace R3Fz := R3Fz.mark hg (fun z hz => by cases hz; omega)
                    replace OFz := OFz.mark hg (fun z z' hz hz' => by cases hz; exact fun e => hne1 z' hz' e.symm)
                    replace O6Fz := O6Fz.mark hg (fun z z' hz hz' => by cases hz; exact fun e => hne6 z' hz' e.symm)
                    replace gFz := grown_trans gFz hg
                    clear hc hg
                    refine hK.out _ _ (by exact ⟨BmFz.cell 0, BmFz.cell 1, BmFz.cell 2⟩) (fun hHeld => ?_)
                    clear hK K
                    (try simp only [Act.put, List.getElem_toArray, List.getElem_cons_zero, List.getElem_cons_succ, List.setIfInBounds_toArray, List.set_cons_zero, List.set_cons_succ])
                    clear hHeld
                    refine wpAnyH_ready (rs := [9, 13]) (by kernel_rfl) (by simp) ?_
                    refine AllReadyH.cons rfl (fun K hK => ?_) ?_
                    · skip
                      go_simp
                      refine (specShiftPhoto_any W H A1 _ c1 _ xs (x2 - 2) (x5 - 2) x8 _ OFz.rd (Nat.le_refl _)).mono ?_
                      rintro e wq3004 ⟨A9, c9, rfl, own9, hb9⟩
                      have hg := below_grown (row := some p) hb9
                      have hc := cFz.all hb9
                      have hne9 : ∀ z', (Value.slice A9 (phX W H xs (x2 - 2) (x5 - 2) x8).length c9).ownBlock = some z' → z' ≠ p := fun z' hz' => by have h1 := (own9.bd z' hz').1; have h2 := cFz.lt; omega
                      have hdis9 : ∀ z z', (Value.slice A1 xs.length c1).ownBlock = some z → (Value.slice A9 (phX W H xs (x2 - 2) (x5 - 2) x8).length c9).ownBlock = some z' → z ≠ z' := fun z z' hz hz' => by have h1 := (own9.bd z' hz').1; have h2 := (OFz.bd z hz).2; omega
                      replace own9 := own9.mono (show w.heap.size ≤ _ from gFz.size)
                      clear hb9
                      clear cFz
                      have cFz := hc
                      replace BmFz := BmFz.mark hg (fun z hz => by cases hz; omega)
                      replace YmFz := YmFz.mark hg (fun z hz => by cases hz; omega)
                      replace R2Fz := R2Fz.mark hg (fun z hz => by cases hz; omega)
                      replace R3Fz := R3Fz.mark hg (fun z hz => by cases hz; omega)
                      replace OFz := OFz.mark hg (fun z z' hz hz' => by cases hz; exact fun e => hne1 z' hz' e.symm)
                      replace O6Fz := O6Fz.mark hg (fun z z' hz hz' => by cases hz; exact fun e => hne6 z' hz' e.symm)
                      replace gFz := grown_trans gFz hg
                      clear hc hg
                      refine hK.out _ _ (by exact ⟨BmFz.cell 0, BmFz.cell 1, BmFz.cell 2⟩) (fun hHeld => ?_)
                      clear hK K
                      (try simp only [Act.put, List.getElem_toArray, List.getElem_cons_zero, List.getElem_cons_succ, List.setIfInBounds_toArray, List.set_cons_zero, List.set_cons_succ])
                      refine wpAnyH_take (i := 10) (v := ?_) rfl (by kernel_rfl) (by kernel_rfl) (by kernel_rfl) (fun _ _ _ h => h) (Or.inl ⟨by rfl, ?_⟩) (by assumption) ?_
                      rotate_left
                      · intro w hSw; (try dsimp only at hSw); go_simp; (try with_reducible rfl)
                      (try simp only [Act.put, List.getElem_toArray, List.getElem_cons_zero, List.getElem_cons_succ, List.setIfInBounds_toArray, List.set_cons_zero, List.set_cons_succ])
                      refine wpAnyH_take (i := 11) (v := ?_) rfl (by kernel_rfl) (by kernel_rfl) (by kernel_rfl) (fun _ _ _ h => h) (Or.inl ⟨by rfl, ?_⟩) (by assumption) ?_
                      rotate_left
                      · intro w hSw; (try dsimp only at hSw); go_simp; (try with_reducible rfl)
                      (try simp only [Act.put, List.getElem_toArray, List.getElem_cons_zero, List.getElem_cons_succ, List.setIfInBounds_toArray, List.set_cons_zero, List.set_cons_succ])
                      refine wpAnyH_take (i := 12) (v := ?_) rfl (by kernel_rfl) (by kernel_rfl) (by kernel_rfl) (fun _ _ _ h => h) (Or.inl ⟨by rfl, ?_⟩) (by assumption) ?_
                      rotate_left
                      · intro w hSw; (try dsimp only at hSw); go_simp; (try with_reducible rfl)
                      (try simp only [Act.put, List.getElem_toArray, List.getElem_cons_zero, List.getElem_cons_succ, List.setIfInBounds_toArray, List.set_cons_zero, List.set_cons_succ])
                      clear hHeld
                      refine wpAnyH_ready (rs := [13]) (by kernel_rfl) (by simp) ?_
                      refine AllReadyH.cons rfl (fun K hK => ?_) AllReadyH.nil
                      go_simp
                      have hal := (Below.refl wq3004.heap.size wq3004).alloc (Nat.le_refl _) (.cells #[.int .i64 0, .int .i64 0, .slice none 0 0] 26)
                      have hql13 : Q5 < wq3004.heap.size := YmFz.lt
                      have hcl := cFz.lt
                      replace cFz := cFz.all hal
                      replace BmFz := BmFz.all hal
                      replace YmFz := YmFz.all hal
                      replace R2Fz := R2Fz.all hal
                      replace R3Fz := R3Fz.all hal
                      replace OFz := OFz.all hal
                      replace O6Fz := O6Fz.all hal
                      replace gFz := grown_trans gFz (below_grown (row := some p) hal)
                      replace own9 := own9.all hal
                      have Lit13 : Blk _ (wq3004.heap.size) _ _ := Blk.new wq3004 #[.int .i64 0, .int .i64 0, .slice none 0 0] 26
                      obtain ⟨q13, hq⟩ : ∃ q, wq3004.heap.size = q := ⟨_, rfl⟩
                      rw [hq] at Lit13 hql13 ⊢
                      have hqp13 : q13 ≠ p := by omega
                      clear hcl
                      obtain ⟨wq3005, hw⟩ : ∃ v, wq3004.alloc (.cells #[.int .i64 0, .int .i64 0, .slice none 0 0] 26) = v := ⟨_, rfl⟩
                      rw [hw] at cFz BmFz YmFz R2Fz R3Fz OFz O6Fz gFz own9 Lit13 ⊢
                      clear hal hw hq
                      refine hK.out _ _ (by exact ⟨BmFz.cell 0, BmFz.cell 1, BmFz.cell 2⟩) (fun hHeld => ?_)
                      clear hK K
                      (try simp only [Act.put, List.getElem_toArray, List.getElem_cons_zero, List.getElem_cons_succ, List.setIfInBounds_toArray, List.set_cons_zero, List.set_cons_succ])
                      revert hHeld; revert hwx5; revert hwx2; revert hqp13; revert hql13; revert hne9; revert hdis9; revert hbx8; revert hbx5; revert hbx2; revert Lit13; revert own9; revert gFz; revert O6Fz; revert OFz; revert R3Fz; revert R2Fz; revert YmFz; revert BmFz; revert cFz; revert x8; revert x5; revert x2; revert c9; revert A9; revert q13; revert wq3005
                      exact keyT33 true
                    refine AllReadyH.cons rfl (fun K hK => ?_) AllReadyH.nil
                    go_simp
                    have hal := (Below.refl wq3003.heap.size wq3003).alloc (Nat.le_refl _) (.cells #[.int .i64 0, .int .i64 0, .slice none 0 0] 26)
                    have hql13 : Q5 < wq3003.heap.size := YmFz.lt
                    have hcl := cFz.lt
                    replace cFz := cFz.all hal
                    replace BmFz := BmFz.all hal
                    replace YmFz := YmFz.all hal
                    replace R2Fz := R2Fz.all hal
                    replace R3Fz := R3Fz.all hal
                    replace OFz := OFz.all hal
                    replace O6Fz := O6Fz.all hal
                    replace gFz := grown_trans gFz (below_grown (row := some p) hal)
                    have Lit13 : Blk _ (wq3003.heap.size) _ _ := Blk.new wq3003 #[.int .i64 0, .int .i64 0, .slice none 0 0] 26
                    obtain ⟨q13, hq⟩ : ∃ q, wq3003.heap.size = q := ⟨_, rfl⟩
                    rw [hq] at Lit13 hql13 ⊢
                    have hqp13 : q13 ≠ p := by omega
                    clear hcl
                    obtain ⟨wq3006, hw⟩ : ∃ v, wq3003.alloc (.cells #[.int .i64 0, .int .i64 0, .slice none 0 0] 26) = v := ⟨_, rfl⟩
                    rw [hw] at cFz BmFz YmFz R2Fz R3Fz OFz O6Fz gFz Lit13 ⊢
                    clear hal hw hq
                    refine hK.out _ _ (by exact ⟨BmFz.cell 0, BmFz.cell 1, BmFz.cell 2⟩) (fun hHeld => ?_)
                    clear hK K
                    (try simp only [Act.put, List.getElem_toArray, List.getElem_cons_zero, List.getElem_cons_succ, List.setIfInBounds_toArray, List.set_cons_zero, List.set_cons_succ])
                    revert hHeld; revert hwx5; revert hwx2; revert hqp13; revert hql13; revert hbx8; revert hbx5; revert hbx2; revert Lit13; revert gFz; revert O6Fz; revert OFz; revert R3Fz; revert R2Fz; revert YmFz; revert BmFz; revert cFz; revert x8; revert x5; revert x2; revert q13; revert wq3006
                    exact keyT32 true
                  refine AllReadyH.cons rfl (fun K hK => ?_) AllReadyH.nil
                  go_simp
                  have hal := (Below.refl wq3002.heap.size wq3002).alloc (Nat.le_refl _) (.cells #[.int .i64 0, .int .i64 0, .slice none 0 0] 26)
                  have hql13 : Q5 < wq3002.heap.size := YmFz.lt
                  have hcl := cFz.lt
                  replace cFz := cFz.all hal
                  replace BmFz := BmFz.all hal
                  replace YmFz := YmFz.all hal
                  replace R2Fz := R2Fz.all hal
                  replace R3Fz := R3Fz.all hal
                  replace OFz := OFz.all hal
                  replace O6Fz := O6Fz.all hal
                  replace gFz := grown_trans gFz (below_grown (row := some p) hal)
                  have Lit13 : Blk _ (wq3002.heap.size) _ _ := Blk.new wq3002 #[.int .i64 0, .int .i64 0, .slice none 0 0] 26
                  obtain ⟨q13, hq⟩ : ∃ q, wq3002.heap.size = q := ⟨_, rfl⟩
                  rw [hq] at Lit13 hql13 ⊢
                  have hqp13 : q13 ≠ p := by omega
                  clear hcl
                  obtain ⟨wq3007, hw⟩ : ∃ v, wq3002.alloc (.cells #[.int .i64 0, .int .i64 0, .slice none 0 0] 26) = v := ⟨_, rfl⟩
                  rw [hw] at cFz BmFz YmFz R2Fz R3Fz OFz O6Fz gFz Lit13 ⊢
                  clear hal hw hq
                  refine hK.out _ _ (by exact ⟨BmFz.cell 0, BmFz.cell 1, BmFz.cell 2⟩) (fun hHeld => ?_)
                  clear hK K
                  (try simp only [Act.put, List.getElem_toArray, List.getElem_cons_zero, List.getElem_cons_succ, List.setIfInBounds_toArray, List.set_cons_zero, List.set_cons_succ])
                  revert hHeld; revert hwx5; revert hwx2; revert hqp13; revert hql13; revert hbx5; revert hbx2; revert Lit13; revert gFz; revert O6Fz; revert OFz; revert R3Fz; revert R2Fz; revert YmFz; revert BmFz; revert cFz; revert x5; revert x2; revert q13; revert wq3007
                  exact keyT31 true
                refine AllReadyH.cons rfl (fun K hK => ?_) AllReadyH.nil
                go_simp
                have hal := (Below.refl wq3001.heap.size wq3001).alloc (Nat.le_refl _) (.cells #[.int .i64 0, .int .i64 0, .slice none 0 0] 26)
                have hql13 : Q5 < wq3001.heap.size := YmFz.lt
                have hcl := cFz.lt
                replace cFz := cFz.all hal
                replace BmFz := BmFz.all hal
                replace YmFz := YmFz.all hal
                replace R2Fz := R2Fz.all hal
                replace R3Fz := R3Fz.all hal
                replace OFz := OFz.all hal
                replace O6Fz := O6Fz.all hal
                replace gFz := grown_trans gFz (below_grown (row := some p) hal)
                have Lit13 : Blk _ (wq3001.heap.size) _ _ := Blk.new wq3001 #[.int .i64 0, .int .i64 0, .slice none 0 0] 26
                obtain ⟨q13, hq⟩ : ∃ q, wq3001.heap.size = q := ⟨_, rfl⟩
                rw [hq] at Lit13 hql13 ⊢
                have hqp13 : q13 ≠ p := by omega
                clear hcl
                obtain ⟨wq3008, hw⟩ : ∃ v, wq3001.alloc (.cells #[.int .i64 0, .int .i64 0, .slice none 0 0] 26) = v := ⟨_, rfl⟩
                rw [hw] at cFz BmFz YmFz R2Fz R3Fz OFz O6Fz gFz Lit13 ⊢
                clear hal hw hq
                refine hK.out _ _ (by exact ⟨BmFz.cell 0, BmFz.cell 1, BmFz.cell 2⟩) (fun hHeld => ?_)
                clear hK K
                (try simp only [Act.put, List.getElem_toArray, List.getElem_cons_zero, List.getElem_cons_succ, List.setIfInBounds_toArray, List.set_cons_zero, List.set_cons_succ])
                revert hHeld; revert hwx2; revert hqp13; revert hql13; revert hbx2; revert Lit13; revert gFz; revert O6Fz; revert OFz; revert R3Fz; revert R2Fz; revert YmFz; revert BmFz; revert cFz; revert x2; revert q13; revert wq3008
                exact keyT30 true
              refine AllReadyH.cons rfl (fun K hK => ?_) AllReadyH.nil
              go_simp
              have hal := (Below.refl wdT3.heap.size wdT3).alloc (Nat.le_refl _) (.cells #[.int .i64 0, .int .i64 0, .slice none 0 0] 26)
              have hql13 : Q5 < wdT3.heap.size := YmFz.lt
              have hcl := cFz.lt
              replace cFz := cFz.all hal
              replace BmFz := BmFz.all hal
              replace YmFz := YmFz.all hal
              replace R2Fz := R2Fz.all hal
              replace R3Fz := R3Fz.all hal
              replace OFz := OFz.all hal
              replace O6Fz := O6Fz.all hal
              replace gFz := grown_trans gFz (below_grown (row := some p) hal)
              have Lit13 : Blk _ (wdT3.heap.size) _ _ := Blk.new wdT3 #[.int .i64 0, .int .i64 0, .slice none 0 0] 26
              obtain ⟨q13, hq⟩ : ∃ q, wdT3.heap.size = q := ⟨_, rfl⟩
              rw [hq] at Lit13 hql13 ⊢
              have hqp13 : q13 ≠ p := by omega
              clear hcl
              obtain ⟨wq3009, hw⟩ : ∃ v, wdT3.alloc (.cells #[.int .i64 0, .int .i64 0, .slice none 0 0] 26) = v := ⟨_, rfl⟩
              rw [hw] at cFz BmFz YmFz R2Fz R3Fz OFz O6Fz gFz Lit13 ⊢
              clear hal hw hq
              refine hK.out _ _ (by exact ⟨BmFz.cell 0, BmFz.cell 1, BmFz.cell 2⟩) (fun hHeld => ?_)
              clear hK K
              (try simp only [Act.put, List.getElem_toArray, List.getElem_cons_zero, List.getElem_cons_succ, List.setIfInBounds_toArray, List.set_cons_zero, List.set_cons_succ])
              clear hHeld
              refine wpAnyH_ready (rs := [2]) (by kernel_rfl) (by simp) ?_
              refine AllReadyH.cons rfl (fun K hK => ?_) AllReadyH.nil
              go_simp
              refine (pick_any p (k + 1000 + 2) 5 _ cFz (by omega) (by omega) (by omega)).mono ?_
              rintro e wq3010 ⟨x2, rfl, hyx2, hc, hg⟩
              have hbx2 : 0 ≤ x2 ∧ x2 ≤ 4 := by omega
              have hwx2 : IntKind.i64.wrap (x2 - 2) = x2 - 2 := IntWalk.i64_in _ (by omega)
              clear hyx2
              clear cFz
              have cFz := hc
              replace BmFz := BmFz.mark hg (fun z hz => by cases hz; omega)
              replace YmFz := YmFz.mark hg (fun z hz => by cases hz; omega)
              replace R2Fz := R2Fz.mark hg (fun z hz => by cases hz; omega)
              replace R3Fz := R3Fz.mark hg (fun z hz => by cases hz; omega)
              replace OFz := OFz.mark hg (fun z z' hz hz' => by cases hz; exact fun e => hne1 z' hz' e.symm)
              replace O6Fz := O6Fz.mark hg (fun z z' hz hz' => by cases hz; exact fun e => hne6 z' hz' e.symm)
              replace gFz := grown_trans gFz hg
              replace Lit13 := Lit13.mark hg (fun z hz => by cases hz; omega)
              clear hc hg
              refine hK.out _ _ (by exact ⟨BmFz.cell 0, BmFz.cell 1, BmFz.cell 2⟩) (fun hHeld => ?_)
              clear hK K
              (try simp only [Act.put, List.getElem_toArray, List.getElem_cons_zero, List.getElem_cons_succ, List.setIfInBounds_toArray, List.set_cons_zero, List.set_cons_succ])
              refine wpAnyH_take (i := 3) (v := ?_) rfl (by kernel_rfl) (by kernel_rfl) (by kernel_rfl) (fun _ _ _ h => h) (Or.inl ⟨by rfl, ?_⟩) (by assumption) ?_
              rotate_left
              · intro w hSw; (try dsimp only at hSw); go_simp; (try with_reducible rfl)
              (try simp only [Act.put, List.getElem_toArray, List.getElem_cons_zero, List.getElem_cons_succ, List.setIfInBounds_toArray, List.set_cons_zero, List.set_cons_succ])
              revert hHeld; revert hwx2; revert hqp13; revert hql13; revert hbx2; revert Lit13; revert gFz; revert O6Fz; revert OFz; revert R3Fz; revert R2Fz; revert YmFz; revert BmFz; revert cFz; revert x2; revert q13; revert wq3010
              exact keyT30 true
            case keyT30 =>
              intro _ wq3008 q13 x2 cFz BmFz YmFz R2Fz R3Fz OFz O6Fz gFz Lit13 hbx2 hql13 hqp13 hwx2 hHeld
              clear hHeld
              refine wpAnyH_ready (rs := [5]) (by kernel_rfl) (by simp) ?_
              refine AllReadyH.cons rfl (fun K hK => ?_) AllReadyH.nil
              go_simp
              refine (pick_any p ((k + 1000 + 2) + 2) 5 _ cFz (by omega) (by omega) (by omega)).mono ?_
              rintro e wq3011 ⟨x5, rfl, hyx5, hc, hg⟩
              have hbx5 : 0 ≤ x5 ∧ x5 ≤ 4 := by omega
              have hwx5 : IntKind.i64.wrap (x5 - 2) = x5 - 2 := IntWalk.i64_in _ (by omega)
              clear hyx5
              clear cFz
              have cFz := hc
              replace BmFz := BmFz.mark hg (fun z hz => by cases hz; omega)
              replace YmFz := YmFz.mark hg (fun z hz => by cases hz; omega)
              replace R2Fz := R2Fz.mark hg (fun z hz => by cases hz; omega)
              replace R3Fz := R3Fz.mark hg (fun z hz => by cases hz; omega)
              replace OFz := OFz.mark hg (fun z z' hz hz' => by cases hz; exact fun e => hne1 z' hz' e.symm)
              replace O6Fz := O6Fz.mark hg (fun z z' hz hz' => by cases hz; exact fun e => hne6 z' hz' e.symm)
              replace gFz := grown_trans gFz hg
              replace Lit13 := Lit13.mark hg (fun z hz => by cases hz; omega)
              clear hc hg
              refine hK.out _ _ (by exact ⟨BmFz.cell 0, BmFz.cell 1, BmFz.cell 2⟩) (fun hHeld => ?_)
              clear hK K
              (try simp only [Act.put, List.getElem_toArray, List.getElem_cons_zero, List.getElem_cons_succ, List.setIfInBounds_toArray, List.set_cons_zero, List.set_cons_succ])
              refine wpAnyH_take (i := 6) (v := ?_) rfl (by kernel_rfl) (by kernel_rfl) (by kernel_rfl) (fun _ _ _ h => h) (Or.inl ⟨by rfl, ?_⟩) (by assumption) ?_
              rotate_left
              · intro w hSw; (try dsimp only at hSw); go_simp; (try with_reducible rfl)
              (try simp only [Act.put, List.getElem_toArray, List.getElem_cons_zero, List.getElem_cons_succ, List.setIfInBounds_toArray, List.set_cons_zero, List.set_cons_succ])
              revert hHeld; revert hwx5; revert hwx2; revert hqp13; revert hql13; revert hbx5; revert hbx2; revert Lit13; revert gFz; revert O6Fz; revert OFz; revert R3Fz; revert R2Fz; revert YmFz; revert BmFz; revert cFz; revert x5; revert x2; revert q13; revert wq3011
              exact keyT31 true
          case keyT31 =>
            intro _ wq3007 q13 x2 x5 cFz BmFz YmFz R2Fz R3Fz OFz O6Fz gFz Lit13 hbx2 hbx5 hql13 hqp13 hwx2 hwx5 hHeld
            clear hHeld
            refine wpAnyH_ready (rs := [8]) (by kernel_rfl) (by simp) ?_
            refine AllReadyH.cons rfl (fun K hK => ?_) AllReadyH.nil
            go_simp
            refine (pick_any p (((k + 1000 + 2) + 2) + 2) 3 _ cFz (by omega) (by omega) (by omega)).mono ?_
            rintro e wq3012 ⟨x8, rfl, hyx8, hc, hg⟩
            have hbx8 : 0 ≤ x8 ∧ x8 ≤ 2 := by omega
            clear hyx8
            clear cFz
            have cFz := hc
            replace BmFz := BmFz.mark hg (fun z hz => by cases hz; omega)
            replace YmFz := YmFz.mark hg (fun z hz => by cases hz; omega)
            replace R2Fz := R2Fz.mark hg (fun z hz => by cases hz; omega)
            replace R3Fz := R3Fz.mark hg (fun z hz => by cases hz; omega)
            replace OFz := OFz.mark hg (fun z z' hz hz' => by cases hz; exact fun e => hne1 z' hz' e.symm)
            replace O6Fz := O6Fz.mark hg (fun z z' hz hz' => by cases hz; exact fun e => hne6 z' hz' e.symm)
            replace gFz := grown_trans gFz hg
            replace Lit13 := Lit13.mark hg (fun z hz => by cases hz; omega)
            clear hc hg
            refine hK.out _ _ (by exact ⟨BmFz.cell 0, BmFz.cell 1, BmFz.cell 2⟩) (fun hHeld => ?_)
            clear hK K
            (try simp only [Act.put, List.getElem_toArray, List.getElem_cons_zero, List.getElem_cons_succ, List.setIfInBounds_toArray, List.set_cons_zero, List.set_cons_succ])
            revert hHeld; revert hwx5; revert hwx2; revert hqp13; revert hql13; revert hbx8; revert hbx5; revert hbx2; revert Lit13; revert gFz; revert O6Fz; revert OFz; revert R3Fz; revert R2Fz; revert YmFz; revert BmFz; revert cFz; revert x8; revert x5; revert x2; revert q13; revert wq3012
            exact keyT32 true
        case keyT32 =>
          intro _ wq3006 q13 x2 x5 x8 cFz BmFz YmFz R2Fz R3Fz OFz O6Fz gFz Lit13 hbx2 hbx5 hbx8 hql13 hqp13 hwx2 hwx5 hHeld
          clear hHeld
          refine wpAnyH_ready (rs := [9]) (by kernel_rfl) (by simp) ?_
          refine AllReadyH.cons rfl (fun K hK => ?_) AllReadyH.nil
          go_simp
          refine (specShiftPhoto_any W H A1 _ c1 _ xs (x2 - 2) (x5 - 2) x8 _ OFz.rd (Nat.le_refl _)).mono ?_
          rintro e wq3013 ⟨A9, c9, rfl, own9, hb9⟩
          have hg := below_grown (row := some p) hb9
          have hc := cFz.all hb9
          have hne9 : ∀ z', (Value.slice A9 (phX W H xs (x2 - 2) (x5 - 2) x8).length c9).ownBlock = some z' → z' ≠ p := fun z' hz' => by have h1 := (own9.bd z' hz').1; have h2 := cFz.lt; omega
          have hdis9 : ∀ z z', (Value.slice A1 xs.length c1).ownBlock = some z → (Value.slice A9 (phX W H xs (x2 - 2) (x5 - 2) x8).length c9).ownBlock = some z' → z ≠ z' := fun z z' hz hz' => by have h1 := (own9.bd z' hz').1; have h2 := (OFz.bd z hz).2; omega
          replace own9 := own9.mono (show w.heap.size ≤ _ from gFz.size)
          clear hb9
          clear cFz
          have cFz := hc
          replace BmFz := BmFz.mark hg (fun z hz => by cases hz; omega)
          replace YmFz := YmFz.mark hg (fun z hz => by cases hz; omega)
          replace R2Fz := R2Fz.mark hg (fun z hz => by cases hz; omega)
          replace R3Fz := R3Fz.mark hg (fun z hz => by cases hz; omega)
          replace OFz := OFz.mark hg (fun z z' hz hz' => by cases hz; exact fun e => hne1 z' hz' e.symm)
          replace O6Fz := O6Fz.mark hg (fun z z' hz hz' => by cases hz; exact fun e => hne6 z' hz' e.symm)
          replace gFz := grown_trans gFz hg
          replace Lit13 := Lit13.mark hg (fun z hz => by cases hz; omega)
          clear hc hg
          refine hK.out _ _ (by exact ⟨BmFz.cell 0, BmFz.cell 1, BmFz.cell 2⟩) (fun hHeld => ?_)
          clear hK K
          (try simp only [Act.put, List.getElem_toArray, List.getElem_cons_zero, List.getElem_cons_succ, List.setIfInBounds_toArray, List.set_cons_zero, List.set_cons_succ])
          refine wpAnyH_take (i := 10) (v := ?_) rfl (by kernel_rfl) (by kernel_rfl) (by kernel_rfl) (fun _ _ _ h => h) (Or.inl ⟨by rfl, ?_⟩) (by assumption) ?_
          rotate_left
          · intro w hSw; (try dsimp only at hSw); go_simp; (try with_reducible rfl)
          (try simp only [Act.put, List.getElem_toArray, List.getElem_cons_zero, List.getElem_cons_succ, List.setIfInBounds_toArray, List.set_cons_zero, List.set_cons_succ])
          refine wpAnyH_take (i := 11) (v := ?_) rfl (by kernel_rfl) (by kernel_rfl) (by kernel_rfl) (fun _ _ _ h => h) (Or.inl ⟨by rfl, ?_⟩) (by assumption) ?_
          rotate_left
          · intro w hSw; (try dsimp only at hSw); go_simp; (try with_reducible rfl)
          (try simp only [Act.put, List.getElem_toArray, List.getElem_cons_zero, List.getElem_cons_succ, List.setIfInBounds_toArray, List.set_cons_zero, List.set_cons_succ])
          refine wpAnyH_take (i := 12) (v := ?_) rfl (by kernel_rfl) (by kernel_rfl) (by kernel_rfl) (fun _ _ _ h => h) (Or.inl ⟨by rfl, ?_⟩) (by assumption) ?_
          rotate_left
          · intro w hSw; (try dsimp only at hSw); go_simp; (try with_reducible rfl)
          (try simp only [Act.put, List.getElem_toArray, List.getElem_cons_zero, List.getElem_cons_succ, List.setIfInBounds_toArray, List.set_cons_zero, List.set_cons_succ])
          revert hHeld; revert hwx5; revert hwx2; revert hqp13; revert hql13; revert hne9; revert hdis9; revert hbx8; revert hbx5; revert hbx2; revert Lit13; revert own9; revert gFz; revert O6Fz; revert OFz; revert R3Fz; revert R2Fz; revert YmFz; revert BmFz; revert cFz; revert x8; revert x5; revert x2; revert c9; revert A9; revert q13; revert wq3013
          exact keyT33 true
      case keyT33 =>
        intro _ wq3005 q13 A9 c9 x2 x5 x8 cFz BmFz YmFz R2Fz R3Fz OFz O6Fz gFz own9 Lit13 hbx2 hbx5 hbx8 hdis9 hne9 hql13 hqp13 hwx2 hwx5 hHeld
        clear hHeld
        refine wpAnyH_ready (rs := [14]) (by kernel_rfl) (by simp) ?_
        refine AllReadyH.cons rfl (fun K hK => ?_) AllReadyH.nil
        have g0 := Lit13.cell 0
        have g1 := Lit13.cell 1
        have g2 := Lit13.cell 2
        have z0 := Lit13.frozen 0
        have z1 := Lit13.frozen 1
        have z2 := Lit13.frozen 2
        have F_OF := fin3 (p := q13) (w0 := wq3005) (B := w.heap.size) (a := .int .i64 (orZero (phOk W H xs (x2 - 2) (x5 - 2) x8) W)) (b := .int .i64 (orZero (phOk W H xs (x2 - 2) (x5 - 2) x8) H)) (c := .slice A9 (phX W H xs (x2 - 2) (x5 - 2) x8).length c9) OFz (row_ne' OFz.1 Lit13 (by decide)) (Below.refl _ _) (by omega)
        have F_O6F := fin3 (p := q13) (w0 := wq3005) (B := w.heap.size) (a := .int .i64 (orZero (phOk W H xs (x2 - 2) (x5 - 2) x8) W)) (b := .int .i64 (orZero (phOk W H xs (x2 - 2) (x5 - 2) x8) H)) (c := .slice A9 (phX W H xs (x2 - 2) (x5 - 2) x8).length c9) O6Fz (row_ne' O6Fz.1 Lit13 (by decide)) (Below.refl _ _) (by omega)
        have F_O9 := fin3 (p := q13) (w0 := wq3005) (B := w.heap.size) (a := .int .i64 (orZero (phOk W H xs (x2 - 2) (x5 - 2) x8) W)) (b := .int .i64 (orZero (phOk W H xs (x2 - 2) (x5 - 2) x8) H)) (c := .slice A9 (phX W H xs (x2 - 2) (x5 - 2) x8).length c9) own9 (row_ne' own9.1 Lit13 (by decide)) (Below.refl _ _) (by omega)
        have cFzs := cFz.below F_OF.2 hpw
        have gFzs := grown_own gFz F_OF.2
        have BmFzs := BmFz.far3q (p := q13) (a := .int .i64 (orZero (phOk W H xs (x2 - 2) (x5 - 2) x8) W)) (b := .int .i64 (orZero (phOk W H xs (x2 - 2) (x5 - 2) x8) H)) (c := .slice A9 (phX W H xs (x2 - 2) (x5 - 2) x8).length c9) (by omega)
        have YmFzs := YmFz.far3q (p := q13) (a := .int .i64 (orZero (phOk W H xs (x2 - 2) (x5 - 2) x8) W)) (b := .int .i64 (orZero (phOk W H xs (x2 - 2) (x5 - 2) x8) H)) (c := .slice A9 (phX W H xs (x2 - 2) (x5 - 2) x8).length c9) (by omega)
        have R2Fzs := R2Fz.far3q (p := q13) (a := .int .i64 (orZero (phOk W H xs (x2 - 2) (x5 - 2) x8) W)) (b := .int .i64 (orZero (phOk W H xs (x2 - 2) (x5 - 2) x8) H)) (c := .slice A9 (phX W H xs (x2 - 2) (x5 - 2) x8).length c9) (by omega)
        have R3Fzs := R3Fz.far3q (p := q13) (a := .int .i64 (orZero (phOk W H xs (x2 - 2) (x5 - 2) x8) W)) (b := .int .i64 (orZero (phOk W H xs (x2 - 2) (x5 - 2) x8) H)) (c := .slice A9 (phX W H xs (x2 - 2) (x5 - 2) x8).length c9) (by omega)
        have Lit13s := Lit13.put3q (.int .i64 (orZero (phOk W H xs (x2 - 2) (x5 - 2) x8) W)) (.int .i64 (orZero (phOk W H xs (x2 - 2) (x5 - 2) x8) H)) (.slice A9 (phX W H xs (x2 - 2) (x5 - 2) x8).length c9)
        clear cFz gFz BmFz YmFz R2Fz R3Fz Lit13 OFz O6Fz own9
        go_simp
        obtain ⟨ws3014, hws⟩ : ∃ v, ((wq3005.setCell ⟨q13, 0, none⟩ (.int .i64 (orZero (phOk W H xs (x2 - 2) (x5 - 2) x8) W))).setCell ⟨q13, 1, none⟩ (.int .i64 (orZero (phOk W H xs (x2 - 2) (x5 - 2) x8) H))).setCell ⟨q13, 2, none⟩ (.slice A9 (phX W H xs (x2 - 2) (x5 - 2) x8).length c9) = v := ⟨_, rfl⟩
        rw [hws] at cFzs gFzs BmFzs YmFzs R2Fzs R3Fzs Lit13s F_OF F_O6F F_O9 ⊢
        clear hws g0 g1 g2 z0 z1 z2
        have OFzs := F_OF.1
        have O6Fzs := F_O6F.1
        have own9s := F_O9.1
        clear F_OF F_O6F F_O9
        refine hK.out _ _ (by exact ⟨BmFzs.cell 0, BmFzs.cell 1, BmFzs.cell 2⟩) (fun hHeld => ?_)
        clear hK K
        (try simp only [Act.put, List.getElem_toArray, List.getElem_cons_zero, List.getElem_cons_succ, List.setIfInBounds_toArray, List.set_cons_zero, List.set_cons_succ])
        refine wpAnyH_take (i := 15) (v := ?_) rfl (by kernel_rfl) (by kernel_rfl) (by kernel_rfl) (fun _ _ _ h => h) (Or.inl ⟨by rfl, ?_⟩) (by assumption) ?_
        rotate_left
        · intro w hSw; (try dsimp only at hSw); go_simp; (try with_reducible rfl)
        (try simp only [Act.put, List.getElem_toArray, List.getElem_cons_zero, List.getElem_cons_succ, List.setIfInBounds_toArray, List.set_cons_zero, List.set_cons_succ])
        refine wpAnyH_done (by kernel_rfl) ?_ _
        refine NoPanic.normal ?_
        have cF := cFzs
        have BmF := BmFzs
        have YmF := YmFzs
        have R2F := R2Fzs
        have R3F := R3Fzs
        have OF := OFzs
        have O6F := O6Fzs
        have O9 := own9s
        have gF := gFzs
        have Lit13 := Lit13s
        clear hHeld cFzs gFzs BmFzs YmFzs R2Fzs R3Fzs OFzs O6Fzs own9s Lit13s
        have hph := ph_small (x2 - 2) (x5 - 2) x8 hsm
        obtain ⟨ok, hok⟩ : ∃ b, phOk W H xs (x2 - 2) (x5 - 2) x8 = b := ⟨_, rfl⟩
        obtain ⟨oW, hoW⟩ : ∃ b, orZero (phOk W H xs (x2 - 2) (x5 - 2) x8) W = b := ⟨_, rfl⟩
        obtain ⟨oH, hoH⟩ : ∃ b, orZero (phOk W H xs (x2 - 2) (x5 - 2) x8) H = b := ⟨_, rfl⟩
        obtain ⟨zs, hzs⟩ : ∃ b, (phX W H xs (x2 - 2) (x5 - 2) x8) = b := ⟨_, rfl⟩
        rw [hoW, hoH, hzs] at hph Lit13
        rw [hzs] at O9 hne9 hdis9
        rw [hok] at hph ⊢
        obtain ⟨hso, hzl⟩ := hph
        clear hok hoW hoH hzs
        cases ok with
        | false =>
          have hxl0 : xs.length = xs.length := rfl
          clear hso hzl O9 hne9 hdis9 Lit13
          obtain ⟨g6, rfl, hg6a, hg6b⟩ := O6F.some_ (by omega)
          have hg6p : g6 ≠ p := hne6 g6 rfl
          go_wp2_with fail
          refine (pick_any p ((((k + 1000 + 2) + 2) + 2) + 2) 4 _ cF (by omega) (by omega) (by omega)).mono ?_
          rintro e wp ⟨n0, rfl, hn0, hc, hg⟩
          replace BmF := BmF.mark hg (fun z hz => by cases hz; omega)
          replace YmF := YmF.mark hg (fun z hz => by cases hz; omega)
          replace R2F := R2F.mark hg (fun z hz => by cases hz; omega)
          replace R3F := R3F.mark hg (fun z hz => by cases hz; omega)
          replace OF := OF.mark hg (fun z z' hz hz' => by cases hz; exact fun e => hne1 z' hz' e.symm)
          replace O6F := O6F.mark hg (fun z z' hz hz' => by cases hz; exact fun e => hne6 z' hz' e.symm)
          replace gF := grown_trans gF hg
          replace cF := hc
          clear hc hg
          obtain ⟨j0, rfl⟩ := Int.eq_ofNat_of_zero_le hn0.1
          have hj04 : j0 ≤ 4 := by omega
          clear hn0
          have HS := Lib.hid (hsm)
          obtain ⟨nn, hnn⟩ : ∃ v, xs.length = v := ⟨_, rfl⟩
          have hn1 : 1 ≤ nn := by omega
          have hn1000 : nn ≤ 1000 := by have := HS.out.1; omega
          have HNE := Lib.hid hne1
          have HDIS := Lib.hid hdis
          clear hdis hne6 hxl0
          go_wp2
          go_loopw [8] (fun s8 wr => ∃ (j kk : Nat) (ts : List Int), j ≤ 4 ∧ s8 = .int .i64 j ∧ kk + 4 * j ≤ ((((k + 1000 + 2) + 2) + 2) + 2) + 2 + 16 ∧ Hid (ts.length = nn) ∧ Cur wr p kk ∧ Blk wr Q4 26 #[.int .i64 W, .int .i64 H, .slice A1 xs.length c1] ∧ Blk wr Q5 26 #[.int .i64 W, .int .i64 H, .slice (some ⟨g6, 0, none⟩) nn c6] ∧ Blk wr w.heap.size 26 #[.int .i64 0, .int .i64 0, .slice none 0 0] ∧ Blk wr (w.heap.size + 1) 26 #[.int .i64 0, .int .i64 0, .slice none 0 0] ∧ Own wr w.heap.size (.slice A1 xs.length c1) xs ∧ Own wr w.heap.size (.slice (some ⟨g6, 0, none⟩) nn c6) ts ∧ Hid (w.grownBy wr (some p))) (fun s8 _ => (intOf s8).toNat)
          case atStart => exact ⟨j0, _, xs, hj04, rfl, by omega, hnn, cF, BmF, by rw [← hnn]; exact YmF, R2F, R3F, OF, by rw [← hnn]; exact O6F, Lib.hid gF⟩
          case round =>
            clear cF BmF YmF R2F R3F OF O6F gF hnn hj04
            obtain ⟨j, kk, ts, hj4, rfl, hkk, HTS, cF, BmF, YmF, R2F, R3F, OF, O6F, HGF⟩ := hrel
            have gF := HGF.out
            clear HGF
            obtain rfl := HTS.out
            have hne1 := HNE.out
            have hz0 := gF.size
            by_cases hj : 0 < j
            · skip
              have hji : (0 : Int) < (j : Int) := by omega
              have hne6 : ∀ z', (Value.slice (some ⟨g6, 0, none⟩) ts.length c6).ownBlock = some z' → z' ≠ p := fun z' hz' => by cases hz'; exact hg6p
              have ex00 := YmF.cell 0
              have ex01 := YmF.cell 1
              have ex02 := YmF.cell 2
              go_wp2
              refine wp_region_noPanic ?_
              refine wp_region_held_drew (S := (fun w' => w'.cell? ⟨Q5, 0, none⟩ = some (.int .i64 W) ∧ w'.cell? ⟨Q5, 1, none⟩ = some (.int .i64 H) ∧ w'.cell? ⟨Q5, 2, none⟩ = some (.slice (some ⟨g6, 0, none⟩) ts.length c6))) (by kernel_rfl) (by go_keep) (fun hHeld => ?_)
              have cFz := cur_drew cF
              have BmFz : Blk wr.drew _ _ _ := BmF.all (low_drewN wr 1)
              have YmFz : Blk wr.drew _ _ _ := YmF.all (low_drewN wr 1)
              have R2Fz : Blk wr.drew _ _ _ := R2F.all (low_drewN wr 1)
              have R3Fz : Blk wr.drew _ _ _ := R3F.all (low_drewN wr 1)
              have OFz : Own wr.drew _ _ _ := OF.all (low_drewN wr 1)
              have O6Fz : Own wr.drew _ _ _ := O6F.all (low_drewN wr 1)
              have gFz := grown_trans gF (drew_grown _ _)
              obtain ⟨wdT4, hwd⟩ : ∃ v, wr.drew = v := ⟨_, rfl⟩
              rw [hwd] at hHeld cFz BmFz YmFz R2Fz R3Fz OFz O6Fz gFz ⊢
              clear hwd
              refine wpAnyH_take (i := 0) (v := ?_) rfl (by kernel_rfl) (by kernel_rfl) (by kernel_rfl) (fun _ _ _ h => h) (Or.inl ⟨by rfl, ?_⟩) (by assumption) ?_
              rotate_left
              · intro w hSw; (try dsimp only at hSw); go_simp; (try with_reducible rfl)
              (try simp only [Act.put, List.getElem_toArray, List.getElem_cons_zero, List.setIfInBounds_toArray, List.set_cons_zero, List.set_cons_succ])
              refine wpAnyH_take (i := 1) (v := ?_) rfl (by kernel_rfl) (by kernel_rfl) (by kernel_rfl) (fun _ _ _ h => h) (Or.inl ⟨by rfl, ?_⟩) (by assumption) ?_
              rotate_left
              · intro w hSw; (try dsimp only at hSw); go_simp; (try with_reducible rfl)
              (try simp only [Act.put, List.getElem_toArray, List.getElem_cons_zero, List.getElem_cons_succ, List.setIfInBounds_toArray, List.set_cons_zero, List.set_cons_succ])
              refine wpAnyH_take (i := 2) (v := ?_) rfl (by kernel_rfl) (by kernel_rfl) (by kernel_rfl) (fun _ _ _ h => h) (Or.inl ⟨by rfl, ?_⟩) (by assumption) ?_
              rotate_left
              · intro w hSw; (try dsimp only at hSw); go_simp; (try with_reducible rfl)
              (try simp only [Act.put, List.getElem_toArray, List.getElem_cons_zero, List.getElem_cons_succ, List.setIfInBounds_toArray, List.set_cons_zero, List.set_cons_succ])
              refine wpAnyH_take (i := 3) (v := ?_) rfl (by kernel_rfl) (by kernel_rfl) (by kernel_rfl) (fun _ _ _ h => h) (Or.inl ⟨by rfl, ?_⟩) (by assumption) ?_
              rotate_left
              · intro w hSw; (try dsimp only at hSw); go_simp; (try with_reducible rfl)
              (try simp only [Act.put, List.getElem_toArray, List.getElem_cons_zero, List.getElem_cons_succ, List.setIfInBounds_toArray, List.set_cons_zero, List.set_cons_succ])
              refine wpAnyH_take (i := 4) (v := ?_) rfl (by kernel_rfl) (by kernel_rfl) (by kernel_rfl) (fun _ _ _ h => h) (Or.inl ⟨by rfl, ?_⟩) (by assumption) ?_
              rotate_left
              · intro w hSw; (try dsimp only at hSw); go_simp; (try with_reducible rfl)
              (try simp only [Act.put, List.getElem_toArray, List.getElem_cons_zero, List.getElem_cons_succ, List.setIfInBounds_toArray, List.set_cons_zero, List.set_cons_succ])
              refine wpAnyH_take (i := 7) (v := ?_) rfl (by kernel_rfl) (by kernel_rfl) (by kernel_rfl) (fun _ _ _ h => h) (Or.inl ⟨by rfl, ?_⟩) (by assumption) ?_
              rotate_left
              · intro w hSw; (try dsimp only at hSw); go_simp; (try with_reducible rfl)
              (try simp only [Act.put, List.getElem_toArray, List.getElem_cons_zero, List.getElem_cons_succ, List.setIfInBounds_toArray, List.set_cons_zero, List.set_cons_succ])
              clear hHeld
              refine wpAnyH_ready (rs := [5]) (by kernel_rfl) (by simp) ?_
              refine AllReadyH.cons rfl (fun K hK => ?_) AllReadyH.nil
              go_simp
              refine hK.out _ _ (by exact ⟨YmFz.cell 0, YmFz.cell 1, YmFz.cell 2⟩) (fun hHeld => ?_)
              clear hK K
              (try simp only [Act.put, List.getElem_toArray, List.getElem_cons_zero, List.getElem_cons_succ, List.setIfInBounds_toArray, List.set_cons_zero, List.set_cons_succ])
              clear hHeld
              refine wpAnyH_ready (rs := [6]) (by kernel_rfl) (by simp) ?_
              refine AllReadyH.cons rfl (fun K hK => ?_) AllReadyH.nil
              go_simp
              refine (pick_any p kk (ts.length : Int) _ cFz (by omega) (by omega) (by omega)).mono ?_
              rintro e wq4002 ⟨y6, rfl, hy6, hc, hg⟩
              obtain ⟨j6, rfl⟩ := Int.eq_ofNat_of_zero_le hy6.1
              have hj6 : j6 < ts.length := by omega
              have hj6i : (j6 : Int) < (ts.length : Int) := by omega
              have hj60 : (0 : Int) ≤ (j6 : Int) := by omega
              clear hy6
              clear cFz
              have cFz := hc
              replace BmFz := BmFz.mark hg (fun z hz => by cases hz; omega)
              replace YmFz := YmFz.mark hg (fun z hz => by cases hz; omega)
              replace R2Fz := R2Fz.mark hg (fun z hz => by cases hz; omega)
              replace R3Fz := R3Fz.mark hg (fun z hz => by cases hz; omega)
              replace OFz := OFz.mark hg (fun z z' hz hz' => by cases hz; exact fun e => hne1 z' hz' e.symm)
              replace O6Fz := O6Fz.mark hg (fun z z' hz hz' => by cases hz; exact fun e => hne6 z' hz' e.symm)
              replace gFz := grown_trans gFz hg
              clear hc hg
              refine hK.out _ _ (by exact ⟨YmFz.cell 0, YmFz.cell 1, YmFz.cell 2⟩) (fun hHeld => ?_)
              clear hK K
              (try simp only [Act.put, List.getElem_toArray, List.getElem_cons_zero, List.getElem_cons_succ, List.setIfInBounds_toArray, List.set_cons_zero, List.set_cons_succ])
              clear hHeld
              refine wpAnyH_ready (rs := [8]) (by kernel_rfl) (by simp) ?_
              refine AllReadyH.cons rfl (fun K hK => ?_) AllReadyH.nil
              go_simp
              refine (pick_any p (kk + 2) 3 _ cFz (by omega) (by omega) (by omega)).mono ?_
              rintro e wq4003 ⟨y8, rfl, hy8, hc, hg⟩
              have hy8i : I64 y8 := ⟨by omega, by omega⟩
              clear hy8
              clear cFz
              have cFz := hc
              replace BmFz := BmFz.mark hg (fun z hz => by cases hz; omega)
              replace YmFz := YmFz.mark hg (fun z hz => by cases hz; omega)
              replace R2Fz := R2Fz.mark hg (fun z hz => by cases hz; omega)
              replace R3Fz := R3Fz.mark hg (fun z hz => by cases hz; omega)
              replace OFz := OFz.mark hg (fun z z' hz hz' => by cases hz; exact fun e => hne1 z' hz' e.symm)
              replace O6Fz := O6Fz.mark hg (fun z z' hz hz' => by cases hz; exact fun e => hne6 z' hz' e.symm)
              replace gFz := grown_trans gFz hg
              clear hc hg
              refine hK.out _ _ (by exact ⟨YmFz.cell 0, YmFz.cell 1, YmFz.cell 2⟩) (fun hHeld => ?_)
              clear hK K
              (try simp only [Act.put, List.getElem_toArray, List.getElem_cons_zero, List.getElem_cons_succ, List.setIfInBounds_toArray, List.set_cons_zero, List.set_cons_succ])
              refine wpAnyH_take (i := 9) (v := ?_) rfl (by kernel_rfl) (by kernel_rfl) (by kernel_rfl) (fun _ _ _ h => h) (Or.inl ⟨by rfl, ?_⟩) (by assumption) ?_
              rotate_left
              · intro w hSw; (try dsimp only at hSw); go_simp; (try with_reducible rfl)
              (try simp only [Act.put, List.getElem_toArray, List.getElem_cons_zero, List.getElem_cons_succ, List.setIfInBounds_toArray, List.set_cons_zero, List.set_cons_succ])
              clear hHeld
              refine wpAnyH_ready (rs := [10]) (by kernel_rfl) (by simp) ?_
              refine AllReadyH.cons rfl (fun K hK => ?_) AllReadyH.nil
              have KP := knot_put (g := g6) (j := j6) (x := y8) O6Fz hj6 hy8i
              obtain ⟨⟨v6, hv6⟩, hf6, O6N, hgN⟩ := KP
              have bel := (Below.refl w.heap.size wq4003).setCell (p := ⟨g6, j6, none⟩) hg6a (.int .i64 y8)
              have gN := grown_own gFz bel
              have cN := cFz.below bel hpw
              have oN := OFz.mark hgN (fun z z' hz hz' => by cases hz; exact fun e => HDIS.out z' g6 hz' rfl e.symm)
              have bmN := BmFz.mark hgN (fun z hz => by cases hz; exact row_ne O6Fz.1 BmFz (by decide) g6 rfl)
              have xN := YmFz.mark hgN (fun z hz => by cases hz; exact row_ne O6Fz.1 YmFz (by decide) g6 rfl)
              have r2N := R2Fz.mark hgN (fun z hz => by cases hz; exact row_ne O6Fz.1 R2Fz (by decide) g6 rfl)
              have r3N := R3Fz.mark hgN (fun z hz => by cases hz; exact row_ne O6Fz.1 R3Fz (by decide) g6 rfl)
              clear bel hgN OFz O6Fz cFz gFz BmFz YmFz R2Fz R3Fz
              go_simp
              obtain ⟨wn, hwn⟩ : ∃ v, (wq4003.setCell ⟨g6, j6, none⟩ (.int .i64 y8)) = v := ⟨_, rfl⟩
              rw [hwn] at gN cN oN O6N bmN xN r2N r3N ⊢
              clear hwn hv6 hf6
              refine hK.out _ _ (by exact ⟨xN.cell 0, xN.cell 1, xN.cell 2⟩) (fun hHeld => ?_)
              clear hK K
              (try simp only [Act.put, List.getElem_toArray, List.getElem_cons_zero, List.getElem_cons_succ, List.setIfInBounds_toArray, List.set_cons_zero, List.set_cons_succ])
              refine wpAnyH_done (by kernel_rfl) ?_ _
              refine NoPanic.normal ?_
              have hls : (ts.set j6 y8).length = ts.length := List.length_set
              rw [hls] at O6N
              clear hHeld
              go_wp2
              go_roundw
              case rel => exact ⟨j - 1, ((kk + 2) + 2), _, by omega, by go_num, by omega, Lib.hid hls, cN, bmN, xN, r2N, r3N, oN, O6N, Lib.hid gN⟩
              case measure => simp [intOf]; omega
            · skip
              obtain rfl : j = 0 := by omega
              have hne6 : ∀ z', (Value.slice (some ⟨g6, 0, none⟩) ts.length c6).ownBlock = some z' → z' ≠ p := fun z' hz' => by cases hz'; exact hg6p
              have ex00 := BmF.cell 0
              have ex01 := BmF.cell 1
              have ex02 := BmF.cell 2
              have ex10 := YmF.cell 0
              have ex11 := YmF.cell 1
              have ex12 := YmF.cell 2
              go_wp2
              refine wp_region_noPanic ?_
              refine wp_region_held_drew (S := (fun w' => w'.cell? ⟨Q4, 0, none⟩ = some (.int .i64 W) ∧ w'.cell? ⟨Q4, 1, none⟩ = some (.int .i64 H) ∧ w'.cell? ⟨Q4, 2, none⟩ = some (.slice A1 xs.length c1) ∧ w'.cell? ⟨Q5, 0, none⟩ = some (.int .i64 W) ∧ w'.cell? ⟨Q5, 1, none⟩ = some (.int .i64 H) ∧ w'.cell? ⟨Q5, 2, none⟩ = some (.slice (some ⟨g6, 0, none⟩) ts.length c6))) (by kernel_rfl) (by go_keep) (fun hHeld => ?_)
              have cFz := cur_drew cF
              have BmFz : Blk wr.drew _ _ _ := BmF.all (low_drewN wr 1)
              have YmFz : Blk wr.drew _ _ _ := YmF.all (low_drewN wr 1)
              have R2Fz : Blk wr.drew _ _ _ := R2F.all (low_drewN wr 1)
              have R3Fz : Blk wr.drew _ _ _ := R3F.all (low_drewN wr 1)
              have OFz : Own wr.drew _ _ _ := OF.all (low_drewN wr 1)
              have O6Fz : Own wr.drew _ _ _ := O6F.all (low_drewN wr 1)
              have gFz := grown_trans gF (drew_grown _ _)
              obtain ⟨wdT5, hwd⟩ : ∃ v, wr.drew = v := ⟨_, rfl⟩
              rw [hwd] at hHeld cFz BmFz YmFz R2Fz R3Fz OFz O6Fz gFz ⊢
              clear hwd
              refine wpAnyH_take (i := 0) (v := ?_) rfl (by kernel_rfl) (by kernel_rfl) (by kernel_rfl) (fun _ _ _ h => h) (Or.inl ⟨by rfl, ?_⟩) (by assumption) ?_
              rotate_left
              · intro w hSw; (try dsimp only at hSw); go_simp; (try with_reducible rfl)
              (try simp only [Act.put, List.getElem_toArray, List.getElem_cons_zero, List.setIfInBounds_toArray, List.set_cons_zero, List.set_cons_succ])
              refine wpAnyH_take (i := 1) (v := ?_) rfl (by kernel_rfl) (by kernel_rfl) (by kernel_rfl) (fun _ _ _ h => h) (Or.inl ⟨by rfl, ?_⟩) (by assumption) ?_
              rotate_left
              · intro w hSw; (try dsimp only at hSw); go_simp; (try with_reducible rfl)
              (try simp only [Act.put, List.getElem_toArray, List.getElem_cons_zero, List.getElem_cons_succ, List.setIfInBounds_toArray, List.set_cons_zero, List.set_cons_succ])
              clear hHeld
              refine wpAnyH_ready (rs := [2]) (by kernel_rfl) (by simp) ?_
              refine AllReadyH.cons rfl (fun K hK => ?_) AllReadyH.nil
              have g0 := R2Fz.cell 0
              have g1 := R2Fz.cell 1
              have g2 := R2Fz.cell 2
              have z0 := R2Fz.frozen 0
              have z1 := R2Fz.frozen 1
              have z2 := R2Fz.frozen 2
              have F_OF := fin3 (p := w.heap.size) (w0 := wdT5) (B := w.heap.size) (a := .int .i64 W) (b := .int .i64 H) (c := .slice A1 xs.length c1) OFz (row_ne' OFz.1 R2Fz (by decide)) (Below.refl _ _) (by omega)
              have F_O6F := fin3 (p := w.heap.size) (w0 := wdT5) (B := w.heap.size) (a := .int .i64 W) (b := .int .i64 H) (c := .slice A1 xs.length c1) O6Fz (row_ne' O6Fz.1 R2Fz (by decide)) (Below.refl _ _) (by omega)
              have cFzs := cFz.below F_OF.2 hpw
              have gFzs := grown_own gFz F_OF.2
              have BmFzs := BmFz.far3q (p := w.heap.size) (a := .int .i64 W) (b := .int .i64 H) (c := .slice A1 xs.length c1) (by omega)
              have YmFzs := YmFz.far3q (p := w.heap.size) (a := .int .i64 W) (b := .int .i64 H) (c := .slice A1 xs.length c1) (by omega)
              have R2Fzs := R2Fz.put3q (.int .i64 W) (.int .i64 H) (.slice A1 xs.length c1)
              have R3Fzs := R3Fz.far3q (p := w.heap.size) (a := .int .i64 W) (b := .int .i64 H) (c := .slice A1 xs.length c1) (by omega)
              clear cFz gFz BmFz YmFz R2Fz R3Fz OFz O6Fz
              go_simp
              obtain ⟨ws5001, hws⟩ : ∃ v, ((wdT5.setCell ⟨w.heap.size, 0, none⟩ (.int .i64 W)).setCell ⟨w.heap.size, 1, none⟩ (.int .i64 H)).setCell ⟨w.heap.size, 2, none⟩ (.slice A1 xs.length c1) = v := ⟨_, rfl⟩
              rw [hws] at cFzs gFzs BmFzs YmFzs R2Fzs R3Fzs F_OF F_O6F ⊢
              clear hws g0 g1 g2 z0 z1 z2
              have OFzs := F_OF.1
              have O6Fzs := F_O6F.1
              clear F_OF F_O6F
              refine hK.out _ _ (by exact ⟨BmFzs.cell 0, BmFzs.cell 1, BmFzs.cell 2, YmFzs.cell 0, YmFzs.cell 1, YmFzs.cell 2⟩) (fun hHeld => ?_)
              clear hK K
              (try simp only [Act.put, List.getElem_toArray, List.getElem_cons_zero, List.getElem_cons_succ, List.setIfInBounds_toArray, List.set_cons_zero, List.set_cons_succ])
              clear hHeld
              refine wpAnyH_ready (rs := [3]) (by kernel_rfl) (by simp) ?_
              refine AllReadyH.cons rfl (fun K hK => ?_) AllReadyH.nil
              have g0 := R3Fzs.cell 0
              have g1 := R3Fzs.cell 1
              have g2 := R3Fzs.cell 2
              have z0 := R3Fzs.frozen 0
              have z1 := R3Fzs.frozen 1
              have z2 := R3Fzs.frozen 2
              have F_OF := fin3 (p := (w.heap.size + 1)) (w0 := ws5001) (B := w.heap.size) (a := .int .i64 W) (b := .int .i64 H) (c := .slice (some ⟨g6, 0, none⟩) ts.length c6) OFzs (row_ne' OFzs.1 R3Fzs (by decide)) (Below.refl _ _) (by omega)
              have F_O6F := fin3 (p := (w.heap.size + 1)) (w0 := ws5001) (B := w.heap.size) (a := .int .i64 W) (b := .int .i64 H) (c := .slice (some ⟨g6, 0, none⟩) ts.length c6) O6Fzs (row_ne' O6Fzs.1 R3Fzs (by decide)) (Below.refl _ _) (by omega)
              have cFzss := cFzs.below F_OF.2 hpw
              have gFzss := grown_own gFzs F_OF.2
              have BmFzss := BmFzs.far3q (p := (w.heap.size + 1)) (a := .int .i64 W) (b := .int .i64 H) (c := .slice (some ⟨g6, 0, none⟩) ts.length c6) (by omega)
              have YmFzss := YmFzs.far3q (p := (w.heap.size + 1)) (a := .int .i64 W) (b := .int .i64 H) (c := .slice (some ⟨g6, 0, none⟩) ts.length c6) (by omega)
              have R2Fzss := R2Fzs.far3q (p := (w.heap.size + 1)) (a := .int .i64 W) (b := .int .i64 H) (c := .slice (some ⟨g6, 0, none⟩) ts.length c6) (by omega)
              have R3Fzss := R3Fzs.put3q (.int .i64 W) (.int .i64 H) (.slice (some ⟨g6, 0, none⟩) ts.length c6)
              clear cFzs gFzs BmFzs YmFzs R2Fzs R3Fzs OFzs O6Fzs
              go_simp
              obtain ⟨ws5002, hws⟩ : ∃ v, ((ws5001.setCell ⟨(w.heap.size + 1), 0, none⟩ (.int .i64 W)).setCell ⟨(w.heap.size + 1), 1, none⟩ (.int .i64 H)).setCell ⟨(w.heap.size + 1), 2, none⟩ (.slice (some ⟨g6, 0, none⟩) ts.length c6) = v := ⟨_, rfl⟩
              rw [hws] at cFzss gFzss BmFzss YmFzss R2Fzss R3Fzss F_OF F_O6F ⊢
              clear hws g0 g1 g2 z0 z1 z2
              have OFzss := F_OF.1
              have O6Fzss := F_O6F.1
              clear F_OF F_O6F
              refine hK.out _ _ (by exact ⟨BmFzss.cell 0, BmFzss.cell 1, BmFzss.cell 2, YmFzss.cell 0, YmFzss.cell 1, YmFzss.cell 2⟩) (fun hHeld => ?_)
              clear hK K
              (try simp only [Act.put, List.getElem_toArray, List.getElem_cons_zero, List.getElem_cons_succ, List.setIfInBounds_toArray, List.set_cons_zero, List.set_cons_succ])
              refine wpAnyH_done (by kernel_rfl) ?_ _
              refine NoPanic.normal ?_
              have g0 := R2Fzss.cell 0
              have g1 := R2Fzss.cell 1
              have g2 := R2Fzss.cell 2
              have k0 := R3Fzss.cell 0
              have k1 := R3Fzss.cell 1
              have k2 := R3Fzss.cell 2
              go_wp2
              exact bodyPost_ret (v := .tuple #[chartV W H (.slice A1 xs.length c1), chartV W H (.slice (some ⟨g6, 0, none⟩) ts.length c6)]) (by simp [results, Try.results18, go_sem, g0, g1, g2, k0, k1, k2]) rfl ⟨W, H, A1, c1, xs, W, H, (some ⟨g6, 0, none⟩), c6, ts, rfl, hsm, ⟨by have := HS.out.1; omega, HS.out.2⟩, OFzss, O6Fzss, cFzss.more (by omega), gFzss⟩
        | true =>
          replace hzl : 1 ≤ zs.length := by rw [hzl rfl]; exact hx1
          go_wp2_with fail
          refine (one_any p ((((k + 1000 + 2) + 2) + 2) + 2) 2 _ cF (by omega) (by omega) (by omega)).mono ?_
          rintro e wu ⟨d, rfl, hc, hg⟩
          replace BmF := BmF.mark hg (fun z hz => by cases hz; omega)
          replace YmF := YmF.mark hg (fun z hz => by cases hz; omega)
          replace Lit13 := Lit13.mark hg (fun z hz => by cases hz; omega)
          replace R2F := R2F.mark hg (fun z hz => by cases hz; omega)
          replace R3F := R3F.mark hg (fun z hz => by cases hz; omega)
          replace OF := OF.mark hg (fun z z' hz hz' => by cases hz; exact fun e => hne1 z' hz' e.symm)
          replace O6F := O6F.mark hg (fun z z' hz hz' => by cases hz; exact fun e => hne6 z' hz' e.symm)
          replace O9 := O9.mark hg (fun z z' hz hz' => by cases hz; exact fun e => hne9 z' hz' e.symm)
          replace gF := grown_trans gF hg
          replace cF := hc
          clear hc hg
          cases d with
          | false =>
            have hxl0 : xs.length = xs.length := rfl
            clear hso hzl O9 hne9 hdis9 Lit13
            obtain ⟨g6, rfl, hg6a, hg6b⟩ := O6F.some_ (by omega)
            have hg6p : g6 ≠ p := hne6 g6 rfl
            go_wp2_with fail
            refine (pick_any p (((((k + 1000 + 2) + 2) + 2) + 2) + 2) 4 _ cF (by omega) (by omega) (by omega)).mono ?_
            rintro e wp ⟨n0, rfl, hn0, hc, hg⟩
            replace BmF := BmF.mark hg (fun z hz => by cases hz; omega)
            replace YmF := YmF.mark hg (fun z hz => by cases hz; omega)
            replace R2F := R2F.mark hg (fun z hz => by cases hz; omega)
            replace R3F := R3F.mark hg (fun z hz => by cases hz; omega)
            replace OF := OF.mark hg (fun z z' hz hz' => by cases hz; exact fun e => hne1 z' hz' e.symm)
            replace O6F := O6F.mark hg (fun z z' hz hz' => by cases hz; exact fun e => hne6 z' hz' e.symm)
            replace gF := grown_trans gF hg
            replace cF := hc
            clear hc hg
            obtain ⟨j0, rfl⟩ := Int.eq_ofNat_of_zero_le hn0.1
            have hj04 : j0 ≤ 4 := by omega
            clear hn0
            have HS := Lib.hid (hsm)
            obtain ⟨nn, hnn⟩ : ∃ v, xs.length = v := ⟨_, rfl⟩
            have hn1 : 1 ≤ nn := by omega
            have hn1000 : nn ≤ 1000 := by have := HS.out.1; omega
            have HNE := Lib.hid hne1
            have HDIS := Lib.hid hdis
            clear hdis hne6 hxl0
            go_wp2
            go_loopw [8] (fun s8 wr => ∃ (j kk : Nat) (ts : List Int), j ≤ 4 ∧ s8 = .int .i64 j ∧ kk + 4 * j ≤ (((((k + 1000 + 2) + 2) + 2) + 2) + 2) + 2 + 16 ∧ Hid (ts.length = nn) ∧ Cur wr p kk ∧ Blk wr Q4 26 #[.int .i64 W, .int .i64 H, .slice A1 xs.length c1] ∧ Blk wr Q5 26 #[.int .i64 W, .int .i64 H, .slice (some ⟨g6, 0, none⟩) nn c6] ∧ Blk wr w.heap.size 26 #[.int .i64 0, .int .i64 0, .slice none 0 0] ∧ Blk wr (w.heap.size + 1) 26 #[.int .i64 0, .int .i64 0, .slice none 0 0] ∧ Own wr w.heap.size (.slice A1 xs.length c1) xs ∧ Own wr w.heap.size (.slice (some ⟨g6, 0, none⟩) nn c6) ts ∧ Hid (w.grownBy wr (some p))) (fun s8 _ => (intOf s8).toNat)
            case atStart => exact ⟨j0, _, xs, hj04, rfl, by omega, hnn, cF, BmF, by rw [← hnn]; exact YmF, R2F, R3F, OF, by rw [← hnn]; exact O6F, Lib.hid gF⟩
            case round =>
              clear cF BmF YmF R2F R3F OF O6F gF hnn hj04
              obtain ⟨j, kk, ts, hj4, rfl, hkk, HTS, cF, BmF, YmF, R2F, R3F, OF, O6F, HGF⟩ := hrel
              have gF := HGF.out
              clear HGF
              obtain rfl := HTS.out
              have hne1 := HNE.out
              have hz0 := gF.size
              by_cases hj : 0 < j
              · skip
                have hji : (0 : Int) < (j : Int) := by omega
                have hne6 : ∀ z', (Value.slice (some ⟨g6, 0, none⟩) ts.length c6).ownBlock = some z' → z' ≠ p := fun z' hz' => by cases hz'; exact hg6p
                have ex00 := YmF.cell 0
                have ex01 := YmF.cell 1
                have ex02 := YmF.cell 2
                go_wp2
                refine wp_region_noPanic ?_
                refine wp_region_held_drew (S := (fun w' => w'.cell? ⟨Q5, 0, none⟩ = some (.int .i64 W) ∧ w'.cell? ⟨Q5, 1, none⟩ = some (.int .i64 H) ∧ w'.cell? ⟨Q5, 2, none⟩ = some (.slice (some ⟨g6, 0, none⟩) ts.length c6))) (by kernel_rfl) (by go_keep) (fun hHeld => ?_)
                have cFz := cur_drew cF
                have BmFz : Blk wr.drew _ _ _ := BmF.all (low_drewN wr 1)
                have YmFz : Blk wr.drew _ _ _ := YmF.all (low_drewN wr 1)
                have R2Fz : Blk wr.drew _ _ _ := R2F.all (low_drewN wr 1)
                have R3Fz : Blk wr.drew _ _ _ := R3F.all (low_drewN wr 1)
                have OFz : Own wr.drew _ _ _ := OF.all (low_drewN wr 1)
                have O6Fz : Own wr.drew _ _ _ := O6F.all (low_drewN wr 1)
                have gFz := grown_trans gF (drew_grown _ _)
                obtain ⟨wdT6, hwd⟩ : ∃ v, wr.drew = v := ⟨_, rfl⟩
                rw [hwd] at hHeld cFz BmFz YmFz R2Fz R3Fz OFz O6Fz gFz ⊢
                clear hwd
                refine wpAnyH_take (i := 0) (v := ?_) rfl (by kernel_rfl) (by kernel_rfl) (by kernel_rfl) (fun _ _ _ h => h) (Or.inl ⟨by rfl, ?_⟩) (by assumption) ?_
                rotate_left
                · intro w hSw; (try dsimp only at hSw); go_simp; (try with_reducible rfl)
                (try simp only [Act.put, List.getElem_toArray, List.getElem_cons_zero, List.setIfInBounds_toArray, List.set_cons_zero, List.set_cons_succ])
                refine wpAnyH_take (i := 1) (v := ?_) rfl (by kernel_rfl) (by kernel_rfl) (by kernel_rfl) (fun _ _ _ h => h) (Or.inl ⟨by rfl, ?_⟩) (by assumption) ?_
                rotate_left
                · intro w hSw; (try dsimp only at hSw); go_simp; (try with_reducible rfl)
                (try simp only [Act.put, List.getElem_toArray, List.getElem_cons_zero, List.getElem_cons_succ, List.setIfInBounds_toArray, List.set_cons_zero, List.set_cons_succ])
                refine wpAnyH_take (i := 2) (v := ?_) rfl (by kernel_rfl) (by kernel_rfl) (by kernel_rfl) (fun _ _ _ h => h) (Or.inl ⟨by rfl, ?_⟩) (by assumption) ?_
                rotate_left
                · intro w hSw; (try dsimp only at hSw); go_simp; (try with_reducible rfl)
                (try simp only [Act.put, List.getElem_toArray, List.getElem_cons_zero, List.getElem_cons_succ, List.setIfInBounds_toArray, List.set_cons_zero, List.set_cons_succ])
                refine wpAnyH_take (i := 3) (v := ?_) rfl (by kernel_rfl) (by kernel_rfl) (by kernel_rfl) (fun _ _ _ h => h) (Or.inl ⟨by rfl, ?_⟩) (by assumption) ?_
                rotate_left
                · intro w hSw; (try dsimp only at hSw); go_simp; (try with_reducible rfl)
                (try simp only [Act.put, List.getElem_toArray, List.getElem_cons_zero, List.getElem_cons_succ, List.setIfInBounds_toArray, List.set_cons_zero, List.set_cons_succ])
                refine wpAnyH_take (i := 4) (v := ?_) rfl (by kernel_rfl) (by kernel_rfl) (by kernel_rfl) (fun _ _ _ h => h) (Or.inl ⟨by rfl, ?_⟩) (by assumption) ?_
                rotate_left
                · intro w hSw; (try dsimp only at hSw); go_simp; (try with_reducible rfl)
                (try simp only [Act.put, List.getElem_toArray, List.getElem_cons_zero, List.getElem_cons_succ, List.setIfInBounds_toArray, List.set_cons_zero, List.set_cons_succ])
                refine wpAnyH_take (i := 7) (v := ?_) rfl (by kernel_rfl) (by kernel_rfl) (by kernel_rfl) (fun _ _ _ h => h) (Or.inl ⟨by rfl, ?_⟩) (by assumption) ?_
                rotate_left
                · intro w hSw; (try dsimp only at hSw); go_simp; (try with_reducible rfl)
                (try simp only [Act.put, List.getElem_toArray, List.getElem_cons_zero, List.getElem_cons_succ, List.setIfInBounds_toArray, List.set_cons_zero, List.set_cons_succ])
                clear hHeld
                refine wpAnyH_ready (rs := [5]) (by kernel_rfl) (by simp) ?_
                refine AllReadyH.cons rfl (fun K hK => ?_) AllReadyH.nil
                go_simp
                refine hK.out _ _ (by exact ⟨YmFz.cell 0, YmFz.cell 1, YmFz.cell 2⟩) (fun hHeld => ?_)
                clear hK K
                (try simp only [Act.put, List.getElem_toArray, List.getElem_cons_zero, List.getElem_cons_succ, List.setIfInBounds_toArray, List.set_cons_zero, List.set_cons_succ])
                clear hHeld
                refine wpAnyH_ready (rs := [6]) (by kernel_rfl) (by simp) ?_
                refine AllReadyH.cons rfl (fun K hK => ?_) AllReadyH.nil
                go_simp
                refine (pick_any p kk (ts.length : Int) _ cFz (by omega) (by omega) (by omega)).mono ?_
                rintro e wq6002 ⟨y6, rfl, hy6, hc, hg⟩
                obtain ⟨j6, rfl⟩ := Int.eq_ofNat_of_zero_le hy6.1
                have hj6 : j6 < ts.length := by omega
                have hj6i : (j6 : Int) < (ts.length : Int) := by omega
                have hj60 : (0 : Int) ≤ (j6 : Int) := by omega
                clear hy6
                clear cFz
                have cFz := hc
                replace BmFz := BmFz.mark hg (fun z hz => by cases hz; omega)
                replace YmFz := YmFz.mark hg (fun z hz => by cases hz; omega)
                replace R2Fz := R2Fz.mark hg (fun z hz => by cases hz; omega)
                replace R3Fz := R3Fz.mark hg (fun z hz => by cases hz; omega)
                replace OFz := OFz.mark hg (fun z z' hz hz' => by cases hz; exact fun e => hne1 z' hz' e.symm)
                replace O6Fz := O6Fz.mark hg (fun z z' hz hz' => by cases hz; exact fun e => hne6 z' hz' e.symm)
                replace gFz := grown_trans gFz hg
                clear hc hg
                refine hK.out _ _ (by exact ⟨YmFz.cell 0, YmFz.cell 1, YmFz.cell 2⟩) (fun hHeld => ?_)
                clear hK K
                (try simp only [Act.put, List.getElem_toArray, List.getElem_cons_zero, List.getElem_cons_succ, List.setIfInBounds_toArray, List.set_cons_zero, List.set_cons_succ])
                clear hHeld
                refine wpAnyH_ready (rs := [8]) (by kernel_rfl) (by simp) ?_
                refine AllReadyH.cons rfl (fun K hK => ?_) AllReadyH.nil
                go_simp
                refine (pick_any p (kk + 2) 3 _ cFz (by omega) (by omega) (by omega)).mono ?_
                rintro e wq6003 ⟨y8, rfl, hy8, hc, hg⟩
                have hy8i : I64 y8 := ⟨by omega, by omega⟩
                clear hy8
                clear cFz
                have cFz := hc
                replace BmFz := BmFz.mark hg (fun z hz => by cases hz; omega)
                replace YmFz := YmFz.mark hg (fun z hz => by cases hz; omega)
                replace R2Fz := R2Fz.mark hg (fun z hz => by cases hz; omega)
                replace R3Fz := R3Fz.mark hg (fun z hz => by cases hz; omega)
                replace OFz := OFz.mark hg (fun z z' hz hz' => by cases hz; exact fun e => hne1 z' hz' e.symm)
                replace O6Fz := O6Fz.mark hg (fun z z' hz hz' => by cases hz; exact fun e => hne6 z' hz' e.symm)
                replace gFz := grown_trans gFz hg
                clear hc hg
                refine hK.out _ _ (by exact ⟨YmFz.cell 0, YmFz.cell 1, YmFz.cell 2⟩) (fun hHeld => ?_)
                clear hK K
                (try simp only [Act.put, List.getElem_toArray, List.getElem_cons_zero, List.getElem_cons_succ, List.setIfInBounds_toArray, List.set_cons_zero, List.set_cons_succ])
                refine wpAnyH_take (i := 9) (v := ?_) rfl (by kernel_rfl) (by kernel_rfl) (by kernel_rfl) (fun _ _ _ h => h) (Or.inl ⟨by rfl, ?_⟩) (by assumption) ?_
                rotate_left
                · intro w hSw; (try dsimp only at hSw); go_simp; (try with_reducible rfl)
                (try simp only [Act.put, List.getElem_toArray, List.getElem_cons_zero, List.getElem_cons_succ, List.setIfInBounds_toArray, List.set_cons_zero, List.set_cons_succ])
                clear hHeld
                refine wpAnyH_ready (rs := [10]) (by kernel_rfl) (by simp) ?_
                refine AllReadyH.cons rfl (fun K hK => ?_) AllReadyH.nil
                have KP := knot_put (g := g6) (j := j6) (x := y8) O6Fz hj6 hy8i
                obtain ⟨⟨v6, hv6⟩, hf6, O6N, hgN⟩ := KP
                have bel := (Below.refl w.heap.size wq6003).setCell (p := ⟨g6, j6, none⟩) hg6a (.int .i64 y8)
                have gN := grown_own gFz bel
                have cN := cFz.below bel hpw
                have oN := OFz.mark hgN (fun z z' hz hz' => by cases hz; exact fun e => HDIS.out z' g6 hz' rfl e.symm)
                have bmN := BmFz.mark hgN (fun z hz => by cases hz; exact row_ne O6Fz.1 BmFz (by decide) g6 rfl)
                have xN := YmFz.mark hgN (fun z hz => by cases hz; exact row_ne O6Fz.1 YmFz (by decide) g6 rfl)
                have r2N := R2Fz.mark hgN (fun z hz => by cases hz; exact row_ne O6Fz.1 R2Fz (by decide) g6 rfl)
                have r3N := R3Fz.mark hgN (fun z hz => by cases hz; exact row_ne O6Fz.1 R3Fz (by decide) g6 rfl)
                clear bel hgN OFz O6Fz cFz gFz BmFz YmFz R2Fz R3Fz
                go_simp
                obtain ⟨wn, hwn⟩ : ∃ v, (wq6003.setCell ⟨g6, j6, none⟩ (.int .i64 y8)) = v := ⟨_, rfl⟩
                rw [hwn] at gN cN oN O6N bmN xN r2N r3N ⊢
                clear hwn hv6 hf6
                refine hK.out _ _ (by exact ⟨xN.cell 0, xN.cell 1, xN.cell 2⟩) (fun hHeld => ?_)
                clear hK K
                (try simp only [Act.put, List.getElem_toArray, List.getElem_cons_zero, List.getElem_cons_succ, List.setIfInBounds_toArray, List.set_cons_zero, List.set_cons_succ])
                refine wpAnyH_done (by kernel_rfl) ?_ _
                refine NoPanic.normal ?_
                have hls : (ts.set j6 y8).length = ts.length := List.length_set
                rw [hls] at O6N
                clear hHeld
                go_wp2
                go_roundw
                case rel => exact ⟨j - 1, ((kk + 2) + 2), _, by omega, by go_num, by omega, Lib.hid hls, cN, bmN, xN, r2N, r3N, oN, O6N, Lib.hid gN⟩
                case measure => simp [intOf]; omega
              · skip
                obtain rfl : j = 0 := by omega
                have hne6 : ∀ z', (Value.slice (some ⟨g6, 0, none⟩) ts.length c6).ownBlock = some z' → z' ≠ p := fun z' hz' => by cases hz'; exact hg6p
                have ex00 := BmF.cell 0
                have ex01 := BmF.cell 1
                have ex02 := BmF.cell 2
                have ex10 := YmF.cell 0
                have ex11 := YmF.cell 1
                have ex12 := YmF.cell 2
                go_wp2
                refine wp_region_noPanic ?_
                refine wp_region_held_drew (S := (fun w' => w'.cell? ⟨Q4, 0, none⟩ = some (.int .i64 W) ∧ w'.cell? ⟨Q4, 1, none⟩ = some (.int .i64 H) ∧ w'.cell? ⟨Q4, 2, none⟩ = some (.slice A1 xs.length c1) ∧ w'.cell? ⟨Q5, 0, none⟩ = some (.int .i64 W) ∧ w'.cell? ⟨Q5, 1, none⟩ = some (.int .i64 H) ∧ w'.cell? ⟨Q5, 2, none⟩ = some (.slice (some ⟨g6, 0, none⟩) ts.length c6))) (by kernel_rfl) (by go_keep) (fun hHeld => ?_)
                have cFz := cur_drew cF
                have BmFz : Blk wr.drew _ _ _ := BmF.all (low_drewN wr 1)
                have YmFz : Blk wr.drew _ _ _ := YmF.all (low_drewN wr 1)
                have R2Fz : Blk wr.drew _ _ _ := R2F.all (low_drewN wr 1)
                have R3Fz : Blk wr.drew _ _ _ := R3F.all (low_drewN wr 1)
                have OFz : Own wr.drew _ _ _ := OF.all (low_drewN wr 1)
                have O6Fz : Own wr.drew _ _ _ := O6F.all (low_drewN wr 1)
                have gFz := grown_trans gF (drew_grown _ _)
                obtain ⟨wdT7, hwd⟩ : ∃ v, wr.drew = v := ⟨_, rfl⟩
                rw [hwd] at hHeld cFz BmFz YmFz R2Fz R3Fz OFz O6Fz gFz ⊢
                clear hwd
                refine wpAnyH_take (i := 0) (v := ?_) rfl (by kernel_rfl) (by kernel_rfl) (by kernel_rfl) (fun _ _ _ h => h) (Or.inl ⟨by rfl, ?_⟩) (by assumption) ?_
                rotate_left
                · intro w hSw; (try dsimp only at hSw); go_simp; (try with_reducible rfl)
                (try simp only [Act.put, List.getElem_toArray, List.getElem_cons_zero, List.setIfInBounds_toArray, List.set_cons_zero, List.set_cons_succ])
                refine wpAnyH_take (i := 1) (v := ?_) rfl (by kernel_rfl) (by kernel_rfl) (by kernel_rfl) (fun _ _ _ h => h) (Or.inl ⟨by rfl, ?_⟩) (by assumption) ?_
                rotate_left
                · intro w hSw; (try dsimp only at hSw); go_simp; (try with_reducible rfl)
                (try simp only [Act.put, List.getElem_toArray, List.getElem_cons_zero, List.getElem_cons_succ, List.setIfInBounds_toArray, List.set_cons_zero, List.set_cons_succ])
                clear hHeld
                refine wpAnyH_ready (rs := [2]) (by kernel_rfl) (by simp) ?_
                refine AllReadyH.cons rfl (fun K hK => ?_) AllReadyH.nil
                have g0 := R2Fz.cell 0
                have g1 := R2Fz.cell 1
                have g2 := R2Fz.cell 2
                have z0 := R2Fz.frozen 0
                have z1 := R2Fz.frozen 1
                have z2 := R2Fz.frozen 2
                have F_OF := fin3 (p := w.heap.size) (w0 := wdT7) (B := w.heap.size) (a := .int .i64 W) (b := .int .i64 H) (c := .slice A1 xs.length c1) OFz (row_ne' OFz.1 R2Fz (by decide)) (Below.refl _ _) (by omega)
                have F_O6F := fin3 (p := w.heap.size) (w0 := wdT7) (B := w.heap.size) (a := .int .i64 W) (b := .int .i64 H) (c := .slice A1 xs.length c1) O6Fz (row_ne' O6Fz.1 R2Fz (by decide)) (Below.refl _ _) (by omega)
                have cFzs := cFz.below F_OF.2 hpw
                have gFzs := grown_own gFz F_OF.2
                have BmFzs := BmFz.far3q (p := w.heap.size) (a := .int .i64 W) (b := .int .i64 H) (c := .slice A1 xs.length c1) (by omega)
                have YmFzs := YmFz.far3q (p := w.heap.size) (a := .int .i64 W) (b := .int .i64 H) (c := .slice A1 xs.length c1) (by omega)
                have R2Fzs := R2Fz.put3q (.int .i64 W) (.int .i64 H) (.slice A1 xs.length c1)
                have R3Fzs := R3Fz.far3q (p := w.heap.size) (a := .int .i64 W) (b := .int .i64 H) (c := .slice A1 xs.length c1) (by omega)
                clear cFz gFz BmFz YmFz R2Fz R3Fz OFz O6Fz
                go_simp
                obtain ⟨ws7001, hws⟩ : ∃ v, ((wdT7.setCell ⟨w.heap.size, 0, none⟩ (.int .i64 W)).setCell ⟨w.heap.size, 1, none⟩ (.int .i64 H)).setCell ⟨w.heap.size, 2, none⟩ (.slice A1 xs.length c1) = v := ⟨_, rfl⟩
                rw [hws] at cFzs gFzs BmFzs YmFzs R2Fzs R3Fzs F_OF F_O6F ⊢
                clear hws g0 g1 g2 z0 z1 z2
                have OFzs := F_OF.1
                have O6Fzs := F_O6F.1
                clear F_OF F_O6F
                refine hK.out _ _ (by exact ⟨BmFzs.cell 0, BmFzs.cell 1, BmFzs.cell 2, YmFzs.cell 0, YmFzs.cell 1, YmFzs.cell 2⟩) (fun hHeld => ?_)
                clear hK K
                (try simp only [Act.put, List.getElem_toArray, List.getElem_cons_zero, List.getElem_cons_succ, List.setIfInBounds_toArray, List.set_cons_zero, List.set_cons_succ])
                clear hHeld
                refine wpAnyH_ready (rs := [3]) (by kernel_rfl) (by simp) ?_
                refine AllReadyH.cons rfl (fun K hK => ?_) AllReadyH.nil
                have g0 := R3Fzs.cell 0
                have g1 := R3Fzs.cell 1
                have g2 := R3Fzs.cell 2
                have z0 := R3Fzs.frozen 0
                have z1 := R3Fzs.frozen 1
                have z2 := R3Fzs.frozen 2
                have F_OF := fin3 (p := (w.heap.size + 1)) (w0 := ws7001) (B := w.heap.size) (a := .int .i64 W) (b := .int .i64 H) (c := .slice (some ⟨g6, 0, none⟩) ts.length c6) OFzs (row_ne' OFzs.1 R3Fzs (by decide)) (Below.refl _ _) (by omega)
                have F_O6F := fin3 (p := (w.heap.size + 1)) (w0 := ws7001) (B := w.heap.size) (a := .int .i64 W) (b := .int .i64 H) (c := .slice (some ⟨g6, 0, none⟩) ts.length c6) O6Fzs (row_ne' O6Fzs.1 R3Fzs (by decide)) (Below.refl _ _) (by omega)
                have cFzss := cFzs.below F_OF.2 hpw
                have gFzss := grown_own gFzs F_OF.2
                have BmFzss := BmFzs.far3q (p := (w.heap.size + 1)) (a := .int .i64 W) (b := .int .i64 H) (c := .slice (some ⟨g6, 0, none⟩) ts.length c6) (by omega)
                have YmFzss := YmFzs.far3q (p := (w.heap.size + 1)) (a := .int .i64 W) (b := .int .i64 H) (c := .slice (some ⟨g6, 0, none⟩) ts.length c6) (by omega)
                have R2Fzss := R2Fzs.far3q (p := (w.heap.size + 1)) (a := .int .i64 W) (b := .int .i64 H) (c := .slice (some ⟨g6, 0, none⟩) ts.length c6) (by omega)
                have R3Fzss := R3Fzs.put3q (.int .i64 W) (.int .i64 H) (.slice (some ⟨g6, 0, none⟩) ts.length c6)
                clear cFzs gFzs BmFzs YmFzs R2Fzs R3Fzs OFzs O6Fzs
                go_simp
                obtain ⟨ws7002, hws⟩ : ∃ v, ((ws7001.setCell ⟨(w.heap.size + 1), 0, none⟩ (.int .i64 W)).setCell ⟨(w.heap.size + 1), 1, none⟩ (.int .i64 H)).setCell ⟨(w.heap.size + 1), 2, none⟩ (.slice (some ⟨g6, 0, none⟩) ts.length c6) = v := ⟨_, rfl⟩
                rw [hws] at cFzss gFzss BmFzss YmFzss R2Fzss R3Fzss F_OF F_O6F ⊢
                clear hws g0 g1 g2 z0 z1 z2
                have OFzss := F_OF.1
                have O6Fzss := F_O6F.1
                clear F_OF F_O6F
                refine hK.out _ _ (by exact ⟨BmFzss.cell 0, BmFzss.cell 1, BmFzss.cell 2, YmFzss.cell 0, YmFzss.cell 1, YmFzss.cell 2⟩) (fun hHeld => ?_)
                clear hK K
                (try simp only [Act.put, List.getElem_toArray, List.getElem_cons_zero, List.getElem_cons_succ, List.setIfInBounds_toArray, List.set_cons_zero, List.set_cons_succ])
                refine wpAnyH_done (by kernel_rfl) ?_ _
                refine NoPanic.normal ?_
                have g0 := R2Fzss.cell 0
                have g1 := R2Fzss.cell 1
                have g2 := R2Fzss.cell 2
                have k0 := R3Fzss.cell 0
                have k1 := R3Fzss.cell 1
                have k2 := R3Fzss.cell 2
                go_wp2
                exact bodyPost_ret (v := .tuple #[chartV W H (.slice A1 xs.length c1), chartV W H (.slice (some ⟨g6, 0, none⟩) ts.length c6)]) (by simp [results, Try.results18, go_sem, g0, g1, g2, k0, k1, k2]) rfl ⟨W, H, A1, c1, xs, W, H, (some ⟨g6, 0, none⟩), c6, ts, rfl, hsm, ⟨by have := HS.out.1; omega, HS.out.2⟩, OFzss, O6Fzss, cFzss.more (by omega), gFzss⟩
          | true =>
            clear O6F hne6 hdis
            have ey0 := Lit13.cell 0
            have ey1 := Lit13.cell 1
            have ey2 := Lit13.cell 2
            have g0 := YmF.cell 0
            have g1 := YmF.cell 1
            have g2 := YmF.cell 2
            have z0 := YmF.frozen 0
            have z1 := YmF.frozen 1
            have z2 := YmF.frozen 2
            have F_OF := fin3 (p := Q5) (w0 := wu) (B := w.heap.size) (a := .int .i64 oW) (b := .int .i64 oH) (c := .slice A9 zs.length c9) OF (row_ne' OF.1 YmF (by decide)) (Below.refl _ _) (by omega)
            have F_O9 := fin3 (p := Q5) (w0 := wu) (B := w.heap.size) (a := .int .i64 oW) (b := .int .i64 oH) (c := .slice A9 zs.length c9) O9 (row_ne' O9.1 YmF (by decide)) (Below.refl _ _) (by omega)
            have cFs := cF.below F_OF.2 hpw
            have gFs := grown_own gF F_OF.2
            have BmFs := BmF.far3q (p := Q5) (a := .int .i64 oW) (b := .int .i64 oH) (c := .slice A9 zs.length c9) (by omega)
            have YmFs := YmF.put3q (.int .i64 oW) (.int .i64 oH) (.slice A9 zs.length c9)
            have R2Fs := R2F.far3q (p := Q5) (a := .int .i64 oW) (b := .int .i64 oH) (c := .slice A9 zs.length c9) (by omega)
            have R3Fs := R3F.far3q (p := Q5) (a := .int .i64 oW) (b := .int .i64 oH) (c := .slice A9 zs.length c9) (by omega)
            clear cF gF BmF YmF R2F R3F OF O9
            go_wp2_with fail
            obtain ⟨ws7, hws⟩ : ∃ v, ((wu.setCell ⟨Q5, 0, none⟩ (.int .i64 oW)).setCell ⟨Q5, 1, none⟩ (.int .i64 oH)).setCell ⟨Q5, 2, none⟩ (.slice A9 zs.length c9) = v := ⟨_, rfl⟩
            rw [hws] at cFs gFs BmFs YmFs R2Fs R3Fs F_OF F_O9 ⊢
            clear hws g0 g1 g2 z0 z1 z2
            have OFs := F_OF.1
            have O9s := F_O9.1
            clear F_OF F_O9
            clear Lit13 ey0 ey1 ey2
            have cF := cFs
            have BmF := BmFs
            have YmF := YmFs
            have R2F := R2Fs
            have R3F := R3Fs
            have OF := OFs
            have gF := gFs
            have O6F := O9s
            have hne6 := hne9
            have hdis := hdis9
            clear hne9 hdis9 cFs gFs BmFs YmFs R2Fs R3Fs OFs O9s
            obtain ⟨g6, rfl, hg6a, hg6b⟩ := O6F.some_ (by omega)
            have hg6p : g6 ≠ p := hne6 g6 rfl
            skip
            refine (pick_any p (((((k + 1000 + 2) + 2) + 2) + 2) + 2) 4 _ cF (by omega) (by omega) (by omega)).mono ?_
            rintro e wp ⟨n0, rfl, hn0, hc, hg⟩
            replace BmF := BmF.mark hg (fun z hz => by cases hz; omega)
            replace YmF := YmF.mark hg (fun z hz => by cases hz; omega)
            replace R2F := R2F.mark hg (fun z hz => by cases hz; omega)
            replace R3F := R3F.mark hg (fun z hz => by cases hz; omega)
            replace OF := OF.mark hg (fun z z' hz hz' => by cases hz; exact fun e => hne1 z' hz' e.symm)
            replace O6F := O6F.mark hg (fun z z' hz hz' => by cases hz; exact fun e => hne6 z' hz' e.symm)
            replace gF := grown_trans gF hg
            replace cF := hc
            clear hc hg
            obtain ⟨j0, rfl⟩ := Int.eq_ofNat_of_zero_le hn0.1
            have hj04 : j0 ≤ 4 := by omega
            clear hn0
            have HS := Lib.hid (hso)
            obtain ⟨nn, hnn⟩ : ∃ v, zs.length = v := ⟨_, rfl⟩
            have hn1 : 1 ≤ nn := by omega
            have hn1000 : nn ≤ 1000 := by have := HS.out.1; omega
            have HNE := Lib.hid hne1
            have HDIS := Lib.hid hdis
            clear hdis hne6 hzl
            go_wp2
            go_loopw [8] (fun s8 wr => ∃ (j kk : Nat) (ts : List Int), j ≤ 4 ∧ s8 = .int .i64 j ∧ kk + 4 * j ≤ (((((k + 1000 + 2) + 2) + 2) + 2) + 2) + 2 + 16 ∧ Hid (ts.length = nn) ∧ Cur wr p kk ∧ Blk wr Q4 26 #[.int .i64 W, .int .i64 H, .slice A1 xs.length c1] ∧ Blk wr Q5 26 #[.int .i64 oW, .int .i64 oH, .slice (some ⟨g6, 0, none⟩) nn c9] ∧ Blk wr w.heap.size 26 #[.int .i64 0, .int .i64 0, .slice none 0 0] ∧ Blk wr (w.heap.size + 1) 26 #[.int .i64 0, .int .i64 0, .slice none 0 0] ∧ Own wr w.heap.size (.slice A1 xs.length c1) xs ∧ Own wr w.heap.size (.slice (some ⟨g6, 0, none⟩) nn c9) ts ∧ Hid (w.grownBy wr (some p))) (fun s8 _ => (intOf s8).toNat)
            case atStart => exact ⟨j0, _, zs, hj04, rfl, by omega, hnn, cF, BmF, by rw [← hnn]; exact YmF, R2F, R3F, OF, by rw [← hnn]; exact O6F, Lib.hid gF⟩
            case round =>
              clear cF BmF YmF R2F R3F OF O6F gF hnn hj04
              obtain ⟨j, kk, ts, hj4, rfl, hkk, HTS, cF, BmF, YmF, R2F, R3F, OF, O6F, HGF⟩ := hrel
              have gF := HGF.out
              clear HGF
              obtain rfl := HTS.out
              have hne1 := HNE.out
              have hz0 := gF.size
              by_cases hj : 0 < j
              · skip
                have hji : (0 : Int) < (j : Int) := by omega
                have hne6 : ∀ z', (Value.slice (some ⟨g6, 0, none⟩) ts.length c9).ownBlock = some z' → z' ≠ p := fun z' hz' => by cases hz'; exact hg6p
                have ex00 := YmF.cell 0
                have ex01 := YmF.cell 1
                have ex02 := YmF.cell 2
                go_wp2
                refine wp_region_noPanic ?_
                refine wp_region_held_drew (S := (fun w' => w'.cell? ⟨Q5, 0, none⟩ = some (.int .i64 oW) ∧ w'.cell? ⟨Q5, 1, none⟩ = some (.int .i64 oH) ∧ w'.cell? ⟨Q5, 2, none⟩ = some (.slice (some ⟨g6, 0, none⟩) ts.length c9))) (by kernel_rfl) (by go_keep) (fun hHeld => ?_)
                have cFz := cur_drew cF
                have BmFz : Blk wr.drew _ _ _ := BmF.all (low_drewN wr 1)
                have YmFz : Blk wr.drew _ _ _ := YmF.all (low_drewN wr 1)
                have R2Fz : Blk wr.drew _ _ _ := R2F.all (low_drewN wr 1)
                have R3Fz : Blk wr.drew _ _ _ := R3F.all (low_drewN wr 1)
                have OFz : Own wr.drew _ _ _ := OF.all (low_drewN wr 1)
                have O6Fz : Own wr.drew _ _ _ := O6F.all (low_drewN wr 1)
                have gFz := grown_trans gF (drew_grown _ _)
                obtain ⟨wdT8, hwd⟩ : ∃ v, wr.drew = v := ⟨_, rfl⟩
                rw [hwd] at hHeld cFz BmFz YmFz R2Fz R3Fz OFz O6Fz gFz ⊢
                clear hwd
                refine wpAnyH_take (i := 0) (v := ?_) rfl (by kernel_rfl) (by kernel_rfl) (by kernel_rfl) (fun _ _ _ h => h) (Or.inl ⟨by rfl, ?_⟩) (by assumption) ?_
                rotate_left
                · intro w hSw; (try dsimp only at hSw); go_simp; (try with_reducible rfl)
                (try simp only [Act.put, List.getElem_toArray, List.getElem_cons_zero, List.setIfInBounds_toArray, List.set_cons_zero, List.set_cons_succ])
                refine wpAnyH_take (i := 1) (v := ?_) rfl (by kernel_rfl) (by kernel_rfl) (by kernel_rfl) (fun _ _ _ h => h) (Or.inl ⟨by rfl, ?_⟩) (by assumption) ?_
                rotate_left
                · intro w hSw; (try dsimp only at hSw); go_simp; (try with_reducible rfl)
                (try simp only [Act.put, List.getElem_toArray, List.getElem_cons_zero, List.getElem_cons_succ, List.setIfInBounds_toArray, List.set_cons_zero, List.set_cons_succ])
                refine wpAnyH_take (i := 2) (v := ?_) rfl (by kernel_rfl) (by kernel_rfl) (by kernel_rfl) (fun _ _ _ h => h) (Or.inl ⟨by rfl, ?_⟩) (by assumption) ?_
                rotate_left
                · intro w hSw; (try dsimp only at hSw); go_simp; (try with_reducible rfl)
                (try simp only [Act.put, List.getElem_toArray, List.getElem_cons_zero, List.getElem_cons_succ, List.setIfInBounds_toArray, List.set_cons_zero, List.set_cons_succ])
                refine wpAnyH_take (i := 3) (v := ?_) rfl (by kernel_rfl) (by kernel_rfl) (by kernel_rfl) (fun _ _ _ h => h) (Or.inl ⟨by rfl, ?_⟩) (by assumption) ?_
                rotate_left
                · intro w hSw; (try dsimp only at hSw); go_simp; (try with_reducible rfl)
                (try simp only [Act.put, List.getElem_toArray, List.getElem_cons_zero, List.getElem_cons_succ, List.setIfInBounds_toArray, List.set_cons_zero, List.set_cons_succ])
                refine wpAnyH_take (i := 4) (v := ?_) rfl (by kernel_rfl) (by kernel_rfl) (by kernel_rfl) (fun _ _ _ h => h) (Or.inl ⟨by rfl, ?_⟩) (by assumption) ?_
                rotate_left
                · intro w hSw; (try dsimp only at hSw); go_simp; (try with_reducible rfl)
                (try simp only [Act.put, List.getElem_toArray, List.getElem_cons_zero, List.getElem_cons_succ, List.setIfInBounds_toArray, List.set_cons_zero, List.set_cons_succ])
                refine wpAnyH_take (i := 7) (v := ?_) rfl (by kernel_rfl) (by kernel_rfl) (by kernel_rfl) (fun _ _ _ h => h) (Or.inl ⟨by rfl, ?_⟩) (by assumption) ?_
                rotate_left
                · intro w hSw; (try dsimp only at hSw); go_simp; (try with_reducible rfl)
                (try simp only [Act.put, List.getElem_toArray, List.getElem_cons_zero, List.getElem_cons_succ, List.setIfInBounds_toArray, List.set_cons_zero, List.set_cons_succ])
                clear hHeld
                refine wpAnyH_ready (rs := [5]) (by kernel_rfl) (by simp) ?_
                refine AllReadyH.cons rfl (fun K hK => ?_) AllReadyH.nil
                go_simp
                refine hK.out _ _ (by exact ⟨YmFz.cell 0, YmFz.cell 1, YmFz.cell 2⟩) (fun hHeld => ?_)
                clear hK K
                (try simp only [Act.put, List.getElem_toArray, List.getElem_cons_zero, List.getElem_cons_succ, List.setIfInBounds_toArray, List.set_cons_zero, List.set_cons_succ])
                clear hHeld
                refine wpAnyH_ready (rs := [6]) (by kernel_rfl) (by simp) ?_
                refine AllReadyH.cons rfl (fun K hK => ?_) AllReadyH.nil
                go_simp
                refine (pick_any p kk (ts.length : Int) _ cFz (by omega) (by omega) (by omega)).mono ?_
                rintro e wq8002 ⟨y6, rfl, hy6, hc, hg⟩
                obtain ⟨j6, rfl⟩ := Int.eq_ofNat_of_zero_le hy6.1
                have hj6 : j6 < ts.length := by omega
                have hj6i : (j6 : Int) < (ts.length : Int) := by omega
                have hj60 : (0 : Int) ≤ (j6 : Int) := by omega
                clear hy6
                clear cFz
                have cFz := hc
                replace BmFz := BmFz.mark hg (fun z hz => by cases hz; omega)
                replace YmFz := YmFz.mark hg (fun z hz => by cases hz; omega)
                replace R2Fz := R2Fz.mark hg (fun z hz => by cases hz; omega)
                replace R3Fz := R3Fz.mark hg (fun z hz => by cases hz; omega)
                replace OFz := OFz.mark hg (fun z z' hz hz' => by cases hz; exact fun e => hne1 z' hz' e.symm)
                replace O6Fz := O6Fz.mark hg (fun z z' hz hz' => by cases hz; exact fun e => hne6 z' hz' e.symm)
                replace gFz := grown_trans gFz hg
                clear hc hg
                refine hK.out _ _ (by exact ⟨YmFz.cell 0, YmFz.cell 1, YmFz.cell 2⟩) (fun hHeld => ?_)
                clear hK K
                (try simp only [Act.put, List.getElem_toArray, List.getElem_cons_zero, List.getElem_cons_succ, List.setIfInBounds_toArray, List.set_cons_zero, List.set_cons_succ])
                clear hHeld
                refine wpAnyH_ready (rs := [8]) (by kernel_rfl) (by simp) ?_
                refine AllReadyH.cons rfl (fun K hK => ?_) AllReadyH.nil
                go_simp
                refine (pick_any p (kk + 2) 3 _ cFz (by omega) (by omega) (by omega)).mono ?_
                rintro e wq8003 ⟨y8, rfl, hy8, hc, hg⟩
                have hy8i : I64 y8 := ⟨by omega, by omega⟩
                clear hy8
                clear cFz
                have cFz := hc
                replace BmFz := BmFz.mark hg (fun z hz => by cases hz; omega)
                replace YmFz := YmFz.mark hg (fun z hz => by cases hz; omega)
                replace R2Fz := R2Fz.mark hg (fun z hz => by cases hz; omega)
                replace R3Fz := R3Fz.mark hg (fun z hz => by cases hz; omega)
                replace OFz := OFz.mark hg (fun z z' hz hz' => by cases hz; exact fun e => hne1 z' hz' e.symm)
                replace O6Fz := O6Fz.mark hg (fun z z' hz hz' => by cases hz; exact fun e => hne6 z' hz' e.symm)
                replace gFz := grown_trans gFz hg
                clear hc hg
                refine hK.out _ _ (by exact ⟨YmFz.cell 0, YmFz.cell 1, YmFz.cell 2⟩) (fun hHeld => ?_)
                clear hK K
                (try simp only [Act.put, List.getElem_toArray, List.getElem_cons_zero, List.getElem_cons_succ, List.setIfInBounds_toArray, List.set_cons_zero, List.set_cons_succ])
                refine wpAnyH_take (i := 9) (v := ?_) rfl (by kernel_rfl) (by kernel_rfl) (by kernel_rfl) (fun _ _ _ h => h) (Or.inl ⟨by rfl, ?_⟩) (by assumption) ?_
                rotate_left
                · intro w hSw; (try dsimp only at hSw); go_simp; (try with_reducible rfl)
                (try simp only [Act.put, List.getElem_toArray, List.getElem_cons_zero, List.getElem_cons_succ, List.setIfInBounds_toArray, List.set_cons_zero, List.set_cons_succ])
                clear hHeld
                refine wpAnyH_ready (rs := [10]) (by kernel_rfl) (by simp) ?_
                refine AllReadyH.cons rfl (fun K hK => ?_) AllReadyH.nil
                have KP := knot_put (g := g6) (j := j6) (x := y8) O6Fz hj6 hy8i
                obtain ⟨⟨v6, hv6⟩, hf6, O6N, hgN⟩ := KP
                have bel := (Below.refl w.heap.size wq8003).setCell (p := ⟨g6, j6, none⟩) hg6a (.int .i64 y8)
                have gN := grown_own gFz bel
                have cN := cFz.below bel hpw
                have oN := OFz.mark hgN (fun z z' hz hz' => by cases hz; exact fun e => HDIS.out z' g6 hz' rfl e.symm)
                have bmN := BmFz.mark hgN (fun z hz => by cases hz; exact row_ne O6Fz.1 BmFz (by decide) g6 rfl)
                have xN := YmFz.mark hgN (fun z hz => by cases hz; exact row_ne O6Fz.1 YmFz (by decide) g6 rfl)
                have r2N := R2Fz.mark hgN (fun z hz => by cases hz; exact row_ne O6Fz.1 R2Fz (by decide) g6 rfl)
                have r3N := R3Fz.mark hgN (fun z hz => by cases hz; exact row_ne O6Fz.1 R3Fz (by decide) g6 rfl)
                clear bel hgN OFz O6Fz cFz gFz BmFz YmFz R2Fz R3Fz
                go_simp
                obtain ⟨wn, hwn⟩ : ∃ v, (wq8003.setCell ⟨g6, j6, none⟩ (.int .i64 y8)) = v := ⟨_, rfl⟩
                rw [hwn] at gN cN oN O6N bmN xN r2N r3N ⊢
                clear hwn hv6 hf6
                refine hK.out _ _ (by exact ⟨xN.cell 0, xN.cell 1, xN.cell 2⟩) (fun hHeld => ?_)
                clear hK K
                (try simp only [Act.put, List.getElem_toArray, List.getElem_cons_zero, List.getElem_cons_succ, List.setIfInBounds_toArray, List.set_cons_zero, List.set_cons_succ])
                refine wpAnyH_done (by kernel_rfl) ?_ _
                refine NoPanic.normal ?_
                have hls : (ts.set j6 y8).length = ts.length := List.length_set
                rw [hls] at O6N
                clear hHeld
                go_wp2
                go_roundw
                case rel => exact ⟨j - 1, ((kk + 2) + 2), _, by omega, by go_num, by omega, Lib.hid hls, cN, bmN, xN, r2N, r3N, oN, O6N, Lib.hid gN⟩
                case measure => simp [intOf]; omega
              · skip
                obtain rfl : j = 0 := by omega
                have hne6 : ∀ z', (Value.slice (some ⟨g6, 0, none⟩) ts.length c9).ownBlock = some z' → z' ≠ p := fun z' hz' => by cases hz'; exact hg6p
                have ex00 := BmF.cell 0
                have ex01 := BmF.cell 1
                have ex02 := BmF.cell 2
                have ex10 := YmF.cell 0
                have ex11 := YmF.cell 1
                have ex12 := YmF.cell 2
                go_wp2
                refine wp_region_noPanic ?_
                refine wp_region_held_drew (S := (fun w' => w'.cell? ⟨Q4, 0, none⟩ = some (.int .i64 W) ∧ w'.cell? ⟨Q4, 1, none⟩ = some (.int .i64 H) ∧ w'.cell? ⟨Q4, 2, none⟩ = some (.slice A1 xs.length c1) ∧ w'.cell? ⟨Q5, 0, none⟩ = some (.int .i64 oW) ∧ w'.cell? ⟨Q5, 1, none⟩ = some (.int .i64 oH) ∧ w'.cell? ⟨Q5, 2, none⟩ = some (.slice (some ⟨g6, 0, none⟩) ts.length c9))) (by kernel_rfl) (by go_keep) (fun hHeld => ?_)
                have cFz := cur_drew cF
                have BmFz : Blk wr.drew _ _ _ := BmF.all (low_drewN wr 1)
                have YmFz : Blk wr.drew _ _ _ := YmF.all (low_drewN wr 1)
                have R2Fz : Blk wr.drew _ _ _ := R2F.all (low_drewN wr 1)
                have R3Fz : Blk wr.drew _ _ _ := R3F.all (low_drewN wr 1)
                have OFz : Own wr.drew _ _ _ := OF.all (low_drewN wr 1)
                have O6Fz : Own wr.drew _ _ _ := O6F.all (low_drewN wr 1)
                have gFz := grown_trans gF (drew_grown _ _)
                obtain ⟨wdT9, hwd⟩ : ∃ v, wr.drew = v := ⟨_, rfl⟩
                rw [hwd] at hHeld cFz BmFz YmFz R2Fz R3Fz OFz O6Fz gFz ⊢
                clear hwd
                refine wpAnyH_take (i := 0) (v := ?_) rfl (by kernel_rfl) (by kernel_rfl) (by kernel_rfl) (fun _ _ _ h => h) (Or.inl ⟨by rfl, ?_⟩) (by assumption) ?_
                rotate_left
                · intro w hSw; (try dsimp only at hSw); go_simp; (try with_reducible rfl)
                (try simp only [Act.put, List.getElem_toArray, List.getElem_cons_zero, List.setIfInBounds_toArray, List.set_cons_zero, List.set_cons_succ])
                refine wpAnyH_take (i := 1) (v := ?_) rfl (by kernel_rfl) (by kernel_rfl) (by kernel_rfl) (fun _ _ _ h => h) (Or.inl ⟨by rfl, ?_⟩) (by assumption) ?_
                rotate_left
                · intro w hSw; (try dsimp only at hSw); go_simp; (try with_reducible rfl)
                (try simp only [Act.put, List.getElem_toArray, List.getElem_cons_zero, List.getElem_cons_succ, List.setIfInBounds_toArray, List.set_cons_zero, List.set_cons_succ])
                clear hHeld
                refine wpAnyH_ready (rs := [2]) (by kernel_rfl) (by simp) ?_
                refine AllReadyH.cons rfl (fun K hK => ?_) AllReadyH.nil
                have g0 := R2Fz.cell 0
                have g1 := R2Fz.cell 1
                have g2 := R2Fz.cell 2
                have z0 := R2Fz.frozen 0
                have z1 := R2Fz.frozen 1
                have z2 := R2Fz.frozen 2
                have F_OF := fin3 (p := w.heap.size) (w0 := wdT9) (B := w.heap.size) (a := .int .i64 W) (b := .int .i64 H) (c := .slice A1 xs.length c1) OFz (row_ne' OFz.1 R2Fz (by decide)) (Below.refl _ _) (by omega)
                have F_O6F := fin3 (p := w.heap.size) (w0 := wdT9) (B := w.heap.size) (a := .int .i64 W) (b := .int .i64 H) (c := .slice A1 xs.length c1) O6Fz (row_ne' O6Fz.1 R2Fz (by decide)) (Below.refl _ _) (by omega)
                have cFzs := cFz.below F_OF.2 hpw
                have gFzs := grown_own gFz F_OF.2
                have BmFzs := BmFz.far3q (p := w.heap.size) (a := .int .i64 W) (b := .int .i64 H) (c := .slice A1 xs.length c1) (by omega)
                have YmFzs := YmFz.far3q (p := w.heap.size) (a := .int .i64 W) (b := .int .i64 H) (c := .slice A1 xs.length c1) (by omega)
                have R2Fzs := R2Fz.put3q (.int .i64 W) (.int .i64 H) (.slice A1 xs.length c1)
                have R3Fzs := R3Fz.far3q (p := w.heap.size) (a := .int .i64 W) (b := .int .i64 H) (c := .slice A1 xs.length c1) (by omega)
                clear cFz gFz BmFz YmFz R2Fz R3Fz OFz O6Fz
                go_simp
                obtain ⟨ws9001, hws⟩ : ∃ v, ((wdT9.setCell ⟨w.heap.size, 0, none⟩ (.int .i64 W)).setCell ⟨w.heap.size, 1, none⟩ (.int .i64 H)).setCell ⟨w.heap.size, 2, none⟩ (.slice A1 xs.length c1) = v := ⟨_, rfl⟩
                rw [hws] at cFzs gFzs BmFzs YmFzs R2Fzs R3Fzs F_OF F_O6F ⊢
                clear hws g0 g1 g2 z0 z1 z2
                have OFzs := F_OF.1
                have O6Fzs := F_O6F.1
                clear F_OF F_O6F
                refine hK.out _ _ (by exact ⟨BmFzs.cell 0, BmFzs.cell 1, BmFzs.cell 2, YmFzs.cell 0, YmFzs.cell 1, YmFzs.cell 2⟩) (fun hHeld => ?_)
                clear hK K
                (try simp only [Act.put, List.getElem_toArray, List.getElem_cons_zero, List.getElem_cons_succ, List.setIfInBounds_toArray, List.set_cons_zero, List.set_cons_succ])
                clear hHeld
                refine wpAnyH_ready (rs := [3]) (by kernel_rfl) (by simp) ?_
                refine AllReadyH.cons rfl (fun K hK => ?_) AllReadyH.nil
                have g0 := R3Fzs.cell 0
                have g1 := R3Fzs.cell 1
                have g2 := R3Fzs.cell 2
                have z0 := R3Fzs.frozen 0
                have z1 := R3Fzs.frozen 1
                have z2 := R3Fzs.frozen 2
                have F_OF := fin3 (p := (w.heap.size + 1)) (w0 := ws9001) (B := w.heap.size) (a := .int .i64 oW) (b := .int .i64 oH) (c := .slice (some ⟨g6, 0, none⟩) ts.length c9) OFzs (row_ne' OFzs.1 R3Fzs (by decide)) (Below.refl _ _) (by omega)
                have F_O6F := fin3 (p := (w.heap.size + 1)) (w0 := ws9001) (B := w.heap.size) (a := .int .i64 oW) (b := .int .i64 oH) (c := .slice (some ⟨g6, 0, none⟩) ts.length c9) O6Fzs (row_ne' O6Fzs.1 R3Fzs (by decide)) (Below.refl _ _) (by omega)
                have cFzss := cFzs.below F_OF.2 hpw
                have gFzss := grown_own gFzs F_OF.2
                have BmFzss := BmFzs.far3q (p := (w.heap.size + 1)) (a := .int .i64 oW) (b := .int .i64 oH) (c := .slice (some ⟨g6, 0, none⟩) ts.length c9) (by omega)
                have YmFzss := YmFzs.far3q (p := (w.heap.size + 1)) (a := .int .i64 oW) (b := .int .i64 oH) (c := .slice (some ⟨g6, 0, none⟩) ts.length c9) (by omega)
                have R2Fzss := R2Fzs.far3q (p := (w.heap.size + 1)) (a := .int .i64 oW) (b := .int .i64 oH) (c := .slice (some ⟨g6, 0, none⟩) ts.length c9) (by omega)
                have R3Fzss := R3Fzs.put3q (.int .i64 oW) (.int .i64 oH) (.slice (some ⟨g6, 0, none⟩) ts.length c9)
                clear cFzs gFzs BmFzs YmFzs R2Fzs R3Fzs OFzs O6Fzs
                go_simp
                obtain ⟨ws9002, hws⟩ : ∃ v, ((ws9001.setCell ⟨(w.heap.size + 1), 0, none⟩ (.int .i64 oW)).setCell ⟨(w.heap.size + 1), 1, none⟩ (.int .i64 oH)).setCell ⟨(w.heap.size + 1), 2, none⟩ (.slice (some ⟨g6, 0, none⟩) ts.length c9) = v := ⟨_, rfl⟩
                rw [hws] at cFzss gFzss BmFzss YmFzss R2Fzss R3Fzss F_OF F_O6F ⊢
                clear hws g0 g1 g2 z0 z1 z2
                have OFzss := F_OF.1
                have O6Fzss := F_O6F.1
                clear F_OF F_O6F
                refine hK.out _ _ (by exact ⟨BmFzss.cell 0, BmFzss.cell 1, BmFzss.cell 2, YmFzss.cell 0, YmFzss.cell 1, YmFzss.cell 2⟩) (fun hHeld => ?_)
                clear hK K
                (try simp only [Act.put, List.getElem_toArray, List.getElem_cons_zero, List.getElem_cons_succ, List.setIfInBounds_toArray, List.set_cons_zero, List.set_cons_succ])
                refine wpAnyH_done (by kernel_rfl) ?_ _
                refine NoPanic.normal ?_
                have g0 := R2Fzss.cell 0
                have g1 := R2Fzss.cell 1
                have g2 := R2Fzss.cell 2
                have k0 := R3Fzss.cell 0
                have k1 := R3Fzss.cell 1
                have k2 := R3Fzss.cell 2
                go_wp2
                exact bodyPost_ret (v := .tuple #[chartV W H (.slice A1 xs.length c1), chartV oW oH (.slice (some ⟨g6, 0, none⟩) ts.length c9)]) (by simp [results, Try.results18, go_sem, g0, g1, g2, k0, k1, k2]) rfl ⟨W, H, A1, c1, xs, oW, oH, (some ⟨g6, 0, none⟩), c9, ts, rfl, hsm, ⟨by have := HS.out.1; omega, HS.out.2⟩, OFzss, O6Fzss, cFzss.more (by omega), gFzss⟩
end Go.Proofs.Ytgkflgfjbaobcaa
