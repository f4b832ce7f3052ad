/- The draws of the law FnWages out of a code. Condition: a code of at most 65536 bytes. -/
import Derived.Test.YtihhlldpdfihfaaDraws14b
import Derived.Test.YtihhlldpdfihfaaDraws14r
namespace Go.Proofs.Ytihhlldpdfihfaa
open Go.RowKit

theorem i64_litb {l : List Int} (h : ∀ x ∈ l, -100000000 ≤ x ∧ x ≤ 100000000) : ∀ x ∈ l, I64 x := fun x hx => by have := h x hx; unfold I64; omega
section
variable {w w0 : World} {p q lo B : Nat} {t : TypeId} {cs : Array Value} {a b c d e x0 x1 x2 x3 x4 : Value}
theorem set5_blk (h : Blk w p t #[x0, x1, x2, x3, x4]) : Blk (((((w.setCell ⟨p, 0, none⟩ a).setCell ⟨p, 1, none⟩ b).setCell ⟨p, 2, none⟩ c).setCell ⟨p, 3, none⟩ d).setCell ⟨p, 4, none⟩ e) p t #[a, b, c, d, e] := ((((h.set_ 0 a).set_ 1 b).set_ 2 c).set_ 3 d).set_ 4 e
theorem far5_blk (h : Blk w q t cs) (hne : q ≠ p) : Blk (((((w.setCell ⟨p, 0, none⟩ a).setCell ⟨p, 1, none⟩ b).setCell ⟨p, 2, none⟩ c).setCell ⟨p, 3, none⟩ d).setCell ⟨p, 4, none⟩ e) q t cs := ((((h.far (a := ⟨p, 0, none⟩) hne a).far (a := ⟨p, 1, none⟩) hne b).far (a := ⟨p, 2, none⟩) hne c).far (a := ⟨p, 3, none⟩) hne d).far (a := ⟨p, 4, none⟩) hne e
theorem own5 {α : Type} {F : Flat α} {v : Value} {xs : List α} (h : OwnF F w lo v xs) (hp : p < lo) : OwnF F (((((w.setCell ⟨p, 0, none⟩ a).setCell ⟨p, 1, none⟩ b).setCell ⟨p, 2, none⟩ c).setCell ⟨p, 3, none⟩ d).setCell ⟨p, 4, none⟩ e) lo v xs := ((((h.setLow (p := ⟨p, 0, none⟩) hp a).setLow (p := ⟨p, 1, none⟩) hp b).setLow (p := ⟨p, 2, none⟩) hp c).setLow (p := ⟨p, 3, none⟩) hp d).setLow (p := ⟨p, 4, none⟩) hp e
theorem below5 (h : Below B w0 w) (hp : B ≤ p) : Below B w0 (((((w.setCell ⟨p, 0, none⟩ a).setCell ⟨p, 1, none⟩ b).setCell ⟨p, 2, none⟩ c).setCell ⟨p, 3, none⟩ d).setCell ⟨p, 4, none⟩ e) := ((((h.setCell (p := ⟨p, 0, none⟩) hp a).setCell (p := ⟨p, 1, none⟩) hp b).setCell (p := ⟨p, 2, none⟩) hp c).setCell (p := ⟨p, 3, none⟩) hp d).setCell (p := ⟨p, 4, none⟩) hp e
end
/-- A draw of rates and sheets. -/
def GaveRS (w : World) (e : Ending) (w' : World) : Prop := ∃ (r : RatesR) (A : Option Addr) (c : Nat) (xs : List WorkSheetR), e = .returned (.tuple #[.agg #[.int .i64 r.f0, .int .i64 r.f1, .int .i64 r.f2, .int .i64 r.f3, .int .i64 r.f4], .slice A xs.length c]) ∧ r.ok ∧ xs.length ≤ 14 ∧ OwnF workSheetF w' w.heap.size (.slice A xs.length c) xs ∧ Below w.heap.size w w'
/-- A draw of rates, sheets and three numbers. -/
def GaveRS3 (w : World) (e : Ending) (w' : World) : Prop := ∃ (r : RatesR) (A : Option Addr) (c : Nat) (xs : List WorkSheetR) (i0 i1 i2 : Int), e = .returned (.tuple #[.agg #[.int .i64 r.f0, .int .i64 r.f1, .int .i64 r.f2, .int .i64 r.f3, .int .i64 r.f4], .slice A xs.length c, .int .i64 i0, .int .i64 i1, .int .i64 i2]) ∧ r.ok ∧ xs.length ≤ 14 ∧ I64 i0 ∧ I64 i1 ∧ I64 i2 ∧ OwnF workSheetF w' w.heap.size (.slice A xs.length c) xs ∧ Below w.heap.size w w'
/-- A draw of rates and a number. -/
def GaveRI (w : World) (e : Ending) (w' : World) : Prop := ∃ (r : RatesR) (i0 : Int), e = .returned (.tuple #[.agg #[.int .i64 r.f0, .int .i64 r.f1, .int .i64 r.f2, .int .i64 r.f3, .int .i64 r.f4], .int .i64 i0]) ∧ r.ok ∧ I64 i0 ∧ Below w.heap.size w w'
/-- A draw of rates and a sheet. -/
def GaveRW (w : World) (e : Ending) (w' : World) : Prop := ∃ (r : RatesR) (s : WorkSheetR), e = .returned (.tuple #[.agg #[.int .i64 r.f0, .int .i64 r.f1, .int .i64 r.f2, .int .i64 r.f3, .int .i64 r.f4], .agg #[.int .i64 s.f0, .int .i64 s.f1, .int .i64 s.f2, .int .i64 s.f3, .int .i64 s.f4]]) ∧ r.ok ∧ s.ok ∧ Below w.heap.size w w'
set_option maxRecDepth 100000 in
set_option maxHeartbeats 16000000 in
theorem drawPayRoll_any (A : Option Addr) (n c B : Nat) (w : World) (h : RdB w B A n c) (hB : B ≤ w.heap.size) (hn : n ≤ 65536) : Calls Try.prog 5 #[.slice A n c] w (GaveRS w) := by
  have R0 : Blk ((w.alloc (.cells #[.int .i64 0, .int .i64 0, .int .i64 0, .int .i64 0, .int .i64 0] 25)).alloc (.cells #[.slice A n c, .int .i64 0, .int .u64 0] 52)) (w.heap.size) _ _ := ((Blk.new w #[.int .i64 0, .int .i64 0, .int .i64 0, .int .i64 0, .int .i64 0] 25).alloc (.cells #[.slice A n c, .int .i64 0, .int .u64 0] 52)).at_ (by simp)
  have hc0 : Cur ((w.alloc (.cells #[.int .i64 0, .int .i64 0, .int .i64 0, .int .i64 0, .int .i64 0] 25)).alloc (.cells #[.slice A n c, .int .i64 0, .int .u64 0] 52)) (w.heap.size + 1) 0 := by
    have := cur_new5 (h.alloc hB (.cells #[.int .i64 0, .int .i64 0, .int .i64 0, .int .i64 0, .int .i64 0] 25)) (by simp; omega) hn
    simpa using this
  have HB : Below w.heap.size w ((w.alloc (.cells #[.int .i64 0, .int .i64 0, .int .i64 0, .int .i64 0, .int .i64 0] 25)).alloc (.cells #[.slice A n c, .int .i64 0, .int .u64 0] 52)) := by repeat (first | assumption | exact Below.refl _ _ | refine belowN ?_ _ | refine belowD ?_ | (refine Below.setCell ?_ (by first | (simp; done) | (simp; omega) | omega) _) | (refine Below.alloc ?_ (by first | (simp; done) | (simp; omega) | omega) _))
  clear h
  obtain ⟨p_, hp_⟩ : ∃ z, w.heap.size + 1 = z := ⟨_, rfl⟩
  rw [hp_] at hc0
  go_enter Try.func5, Try.ntmps5
  go_wp2_with fail
  (try rw [show w.heap.size + 1 + 1 = p_ by omega])
  (try rw [hp_])
  refine (rates14_any p_ 0 _ hc0 (by omega)).mono ?_
  rintro e w1 ⟨s, rfl, hs, hc1, hg1⟩
  replace R0 := R0.mark hg1 (fun z hz => by cases hz; omega)
  replace HB := HB.trans (grown_below hg1 (by omega) HB.size)
  clear hc0 hg1
  have hq1 := hc1.lt
  have hal := (Below.refl w1.heap.size w1).alloc (Nat.le_refl _) (.cells #[.int .i64 s.f0, .int .i64 s.f1, .int .i64 s.f2, .int .i64 s.f3, .int .i64 s.f4] 25)
  have Bm := Blk.new w1 #[.int .i64 s.f0, .int .i64 s.f1, .int .i64 s.f2, .int .i64 s.f3, .int .i64 s.f4] 25
  replace R0 := R0.all hal
  have cF := hc1.all hal
  replace HB := HB.trans (hal.mono HB.size)
  clear hc1 hal
  have es0 := Bm.cell 0
  go_upto_region 3 with fail
  clear es0
  obtain ⟨w2, hw2⟩ : ∃ v, w1.alloc (.cells #[.int .i64 s.f0, .int .i64 s.f1, .int .i64 s.f2, .int .i64 s.f3, .int .i64 s.f4] 25) = v := ⟨_, rfl⟩
  rw [hw2] at Bm cF HB R0 ⊢
  obtain ⟨Q, hQ⟩ : ∃ v, w1.heap.size = v := ⟨_, rfl⟩
  rw [hQ] at Bm hq1 ⊢
  clear hw2 hQ
  have BmF := Bm
  have gF : w2.grownBy w2 (some p_) := World.grownBy.refl _ _
  have ex0 := Bm.cell 0
  have ex1 := Bm.cell 1
  have ex2 := Bm.cell 2
  have ex3 := Bm.cell 3
  have ex4 := Bm.cell 4
  go_wp2
  refine wp_region_noPanic ?_
  refine wp_region_held_drew (S := (fun w' => w'.cell? ⟨Q, 0, none⟩ = some (.int .i64 s.f0) ∧ w'.cell? ⟨Q, 1, none⟩ = some (.int .i64 s.f1) ∧ w'.cell? ⟨Q, 2, none⟩ = some (.int .i64 s.f2) ∧ w'.cell? ⟨Q, 3, none⟩ = some (.int .i64 s.f3) ∧ w'.cell? ⟨Q, 4, none⟩ = some (.int .i64 s.f4))) (by kernel_rfl) (by go_keep) (fun hHeld => ?_)
  have cFz := cur_drew cF
  have BmFz : Blk w2.drew _ _ _ := BmF.all (low_drewN w2 1)
  have gFz := grown_trans gF (drew_grown _ _)
  obtain ⟨wdT1, hwd⟩ : ∃ v, w2.drew = v := ⟨_, rfl⟩
  rw [hwd] at hHeld cFz BmFz gFz ⊢
  clear hwd
  refine wpAnyH_take (i := 0) (v := ?_) rfl (by kernel_rfl) (by kernel_rfl) (by kernel_rfl) (fun _ _ _ h => h) (Or.inl ⟨by rfl, ?_⟩) (by assumption) ?_
  rotate_left
  · intro w hSw; (try dsimp only at hSw); go_simp; (try with_reducible rfl)
  (try simp only [Act.put, List.getElem_toArray, List.getElem_cons_zero, List.setIfInBounds_toArray, List.set_cons_zero, List.set_cons_succ])
  refine wpAnyH_take (i := 1) (v := ?_) rfl (by kernel_rfl) (by kernel_rfl) (by kernel_rfl) (fun _ _ _ h => h) (Or.inl ⟨by rfl, ?_⟩) (by assumption) ?_
  rotate_left
  · intro w hSw; (try dsimp only at hSw); go_simp; (try with_reducible rfl)
  (try simp only [Act.put, List.getElem_toArray, List.getElem_cons_zero, List.getElem_cons_succ, List.setIfInBounds_toArray, List.set_cons_zero, List.set_cons_succ])
  clear hHeld
  refine wpAnyH_ready (rs := [2]) (by kernel_rfl) (by simp) ?_
  refine AllReadyH.cons rfl (fun K hK => ?_) AllReadyH.nil
  go_simp
  refine (workSheets_any p_ (0 + 100) _ cFz (by omega)).mono ?_
  rintro e wq1001 ⟨A8, c8, xs, rfl, hxl, own8, hc, hg⟩
  have hne8 := (show True from trivial)
  replace own8 := own8.mono (Nat.le_trans (show w.heap.size + 2 ≤ w2.heap.size by have := Bm.lt; omega) gFz.size)
  clear cFz
  have cFz := hc
  replace BmFz := BmFz.mark hg (fun z hz => by cases hz; omega)
  replace gFz := grown_trans gFz hg
  clear hc hg
  refine hK.out _ _ (by exact ⟨BmFz.cell 0, BmFz.cell 1, BmFz.cell 2, BmFz.cell 3, BmFz.cell 4⟩) (fun hHeld => ?_)
  clear hK K
  (try simp only [Act.put, List.getElem_toArray, List.getElem_cons_zero, List.getElem_cons_succ, List.setIfInBounds_toArray, List.set_cons_zero, List.set_cons_succ])
  clear hHeld
  refine wpAnyH_ready (rs := [3]) (by kernel_rfl) (by simp) ?_
  refine AllReadyH.cons rfl (fun K hK => ?_) AllReadyH.nil
  have R0s := R0.mark gFz (fun z hz => by cases hz; omega)
  have HBs := HB.trans (grown_below (B := w.heap.size) gFz (by omega) HB.size)
  have hcur := (show True from trivial)
  have g0 := R0s.cell 0
  have g1 := R0s.cell 1
  have g2 := R0s.cell 2
  have g3 := R0s.cell 3
  have g4 := R0s.cell 4
  have z0 := R0s.frozen 0
  have z1 := R0s.frozen 1
  have z2 := R0s.frozen 2
  have z3 := R0s.frozen 3
  have z4 := R0s.frozen 4
  have R0t := set5_blk (a := (.int .i64 s.f0)) (b := (.int .i64 s.f1)) (c := (.int .i64 s.f2)) (d := (.int .i64 s.f3)) (e := (.int .i64 s.f4)) R0s
  have HBt := below5 (p := w.heap.size) (a := (.int .i64 s.f0)) (b := (.int .i64 s.f1)) (c := (.int .i64 s.f2)) (d := (.int .i64 s.f3)) (e := (.int .i64 s.f4)) HBs (by omega)
  have BmT := far5_blk (p := w.heap.size) (a := (.int .i64 s.f0)) (b := (.int .i64 s.f1)) (c := (.int .i64 s.f2)) (d := (.int .i64 s.f3)) (e := (.int .i64 s.f4)) BmFz (by omega)
  have OXt := own5 (p := w.heap.size) (a := (.int .i64 s.f0)) (b := (.int .i64 s.f1)) (c := (.int .i64 s.f2)) (d := (.int .i64 s.f3)) (e := (.int .i64 s.f4)) own8 (by omega)
  go_simp
  obtain ⟨ws1002, hws⟩ : ∃ v, (((((wq1001.setCell ⟨w.heap.size, 0, none⟩ (.int .i64 s.f0)).setCell ⟨w.heap.size, 1, none⟩ (.int .i64 s.f1)).setCell ⟨w.heap.size, 2, none⟩ (.int .i64 s.f2)).setCell ⟨w.heap.size, 3, none⟩ (.int .i64 s.f3)).setCell ⟨w.heap.size, 4, none⟩ (.int .i64 s.f4)) = v := ⟨_, rfl⟩
  rw [hws] at OXt R0t HBt BmT ⊢
  clear hws g0 g1 g2 g3 g4 z0 z1 z2 z3 z4 R0s HBs
  have R0s := R0t
  have HBs := HBt
  clear R0t HBt
  refine hK.out _ _ (by exact ⟨BmT.cell 0, BmT.cell 1, BmT.cell 2, BmT.cell 3, BmT.cell 4⟩) (fun hHeld => ?_)
  clear hK K
  (try simp only [Act.put, List.getElem_toArray, List.getElem_cons_zero, List.getElem_cons_succ, List.setIfInBounds_toArray, List.set_cons_zero, List.set_cons_succ])
  refine wpAnyH_take (i := 4) (v := ?_) rfl (by kernel_rfl) (by kernel_rfl) (by kernel_rfl) (fun _ _ _ h => h) (Or.inl ⟨by rfl, ?_⟩) (by assumption) ?_
  rotate_left
  · intro w hSw; (try dsimp only at hSw); go_simp; (try with_reducible rfl)
  (try simp only [Act.put, List.getElem_toArray, List.getElem_cons_zero, List.getElem_cons_succ, List.setIfInBounds_toArray, List.set_cons_zero, List.set_cons_succ])
  refine wpAnyH_done (by kernel_rfl) ?_ _
  refine NoPanic.normal ?_
  have g00 := R0s.cell 0
  have g01 := R0s.cell 1
  have g02 := R0s.cell 2
  have g03 := R0s.cell 3
  have g04 := R0s.cell 4
  go_wp2
  exact bodyPost_ret (v := .tuple #[.agg #[.int .i64 s.f0, .int .i64 s.f1, .int .i64 s.f2, .int .i64 s.f3, .int .i64 s.f4], .slice A8 xs.length c8]) (by first | (simp [results, Try.results5, go_sem, g00, g01, g02, g03, g04]; done) | simp [results, Try.results5, go_sem, *]) rfl ⟨s, A8, c8, xs, rfl, hs, hxl, OXt.mono (by omega), HBs⟩
set_option maxRecDepth 100000 in
set_option maxHeartbeats 16000000 in
theorem drawWageOf_any (A : Option Addr) (n c B : Nat) (w : World) (h : RdB w B A n c) (hB : B ≤ w.heap.size) (hn : n ≤ 65536) : Calls Try.prog 18 #[.slice A n c] w (GaveRW w) := by
  have R0 : Blk (((w.alloc (.cells #[.int .i64 0, .int .i64 0, .int .i64 0, .int .i64 0, .int .i64 0] 25)).alloc (.cells #[.int .i64 0, .int .i64 0, .int .i64 0, .int .i64 0, .int .i64 0] 36)).alloc (.cells #[.slice A n c, .int .i64 0, .int .u64 0] 52)) (w.heap.size) _ _ := (((Blk.new w #[.int .i64 0, .int .i64 0, .int .i64 0, .int .i64 0, .int .i64 0] 25).alloc (.cells #[.int .i64 0, .int .i64 0, .int .i64 0, .int .i64 0, .int .i64 0] 36)).alloc (.cells #[.slice A n c, .int .i64 0, .int .u64 0] 52)).at_ (by simp)
  have R1 : Blk (((w.alloc (.cells #[.int .i64 0, .int .i64 0, .int .i64 0, .int .i64 0, .int .i64 0] 25)).alloc (.cells #[.int .i64 0, .int .i64 0, .int .i64 0, .int .i64 0, .int .i64 0] 36)).alloc (.cells #[.slice A n c, .int .i64 0, .int .u64 0] 52)) (w.heap.size + 1) _ _ := ((Blk.new (w.alloc (.cells #[.int .i64 0, .int .i64 0, .int .i64 0, .int .i64 0, .int .i64 0] 25)) #[.int .i64 0, .int .i64 0, .int .i64 0, .int .i64 0, .int .i64 0] 36).alloc (.cells #[.slice A n c, .int .i64 0, .int .u64 0] 52)).at_ (by simp)
  have hc0 : Cur (((w.alloc (.cells #[.int .i64 0, .int .i64 0, .int .i64 0, .int .i64 0, .int .i64 0] 25)).alloc (.cells #[.int .i64 0, .int .i64 0, .int .i64 0, .int .i64 0, .int .i64 0] 36)).alloc (.cells #[.slice A n c, .int .i64 0, .int .u64 0] 52)) (w.heap.size + 2) 0 := by
    have := cur_new5 ((h.alloc hB (.cells #[.int .i64 0, .int .i64 0, .int .i64 0, .int .i64 0, .int .i64 0] 25)).alloc (by simp; omega) (.cells #[.int .i64 0, .int .i64 0, .int .i64 0, .int .i64 0, .int .i64 0] 36)) (by simp; omega) hn
    simpa using this
  have HB : Below w.heap.size w (((w.alloc (.cells #[.int .i64 0, .int .i64 0, .int .i64 0, .int .i64 0, .int .i64 0] 25)).alloc (.cells #[.int .i64 0, .int .i64 0, .int .i64 0, .int .i64 0, .int .i64 0] 36)).alloc (.cells #[.slice A n c, .int .i64 0, .int .u64 0] 52)) := by repeat (first | assumption | exact Below.refl _ _ | refine belowN ?_ _ | refine belowD ?_ | (refine Below.setCell ?_ (by first | (simp; done) | (simp; omega) | omega) _) | (refine Below.alloc ?_ (by first | (simp; done) | (simp; omega) | omega) _))
  clear h
  obtain ⟨p_, hp_⟩ : ∃ z, w.heap.size + 2 = z := ⟨_, rfl⟩
  rw [hp_] at hc0
  go_enter Try.func18, Try.ntmps18
  go_wp2_with fail
  (try rw [show w.heap.size + 1 + 1 = p_ by omega])
  (try rw [hp_])
  refine (rates14_any p_ 0 _ hc0 (by omega)).mono ?_
  rintro e w1 ⟨s, rfl, hs, hc1, hg1⟩
  replace R0 := R0.mark hg1 (fun z hz => by cases hz; omega)
  replace R1 := R1.mark hg1 (fun z hz => by cases hz; omega)
  replace HB := HB.trans (grown_below hg1 (by omega) HB.size)
  clear hc0 hg1
  have hq1 := hc1.lt
  have hal := (Below.refl w1.heap.size w1).alloc (Nat.le_refl _) (.cells #[.int .i64 s.f0, .int .i64 s.f1, .int .i64 s.f2, .int .i64 s.f3, .int .i64 s.f4] 25)
  have Bm := Blk.new w1 #[.int .i64 s.f0, .int .i64 s.f1, .int .i64 s.f2, .int .i64 s.f3, .int .i64 s.f4] 25
  replace R0 := R0.all hal
  replace R1 := R1.all hal
  have cF := hc1.all hal
  replace HB := HB.trans (hal.mono HB.size)
  clear hc1 hal
  have es0 := Bm.cell 0
  go_upto_region 3 with fail
  clear es0
  obtain ⟨w2, hw2⟩ : ∃ v, w1.alloc (.cells #[.int .i64 s.f0, .int .i64 s.f1, .int .i64 s.f2, .int .i64 s.f3, .int .i64 s.f4] 25) = v := ⟨_, rfl⟩
  rw [hw2] at Bm cF HB R0 R1 ⊢
  obtain ⟨Q, hQ⟩ : ∃ v, w1.heap.size = v := ⟨_, rfl⟩
  rw [hQ] at Bm hq1 ⊢
  clear hw2 hQ
  have BmF := Bm
  have gF : w2.grownBy w2 (some p_) := World.grownBy.refl _ _
  have ex0 := Bm.cell 0
  have ex1 := Bm.cell 1
  have ex2 := Bm.cell 2
  have ex3 := Bm.cell 3
  have ex4 := Bm.cell 4
  go_wp2
  refine wp_region_noPanic ?_
  refine wp_region_held_drew (S := (fun w' => w'.cell? ⟨Q, 0, none⟩ = some (.int .i64 s.f0) ∧ w'.cell? ⟨Q, 1, none⟩ = some (.int .i64 s.f1) ∧ w'.cell? ⟨Q, 2, none⟩ = some (.int .i64 s.f2) ∧ w'.cell? ⟨Q, 3, none⟩ = some (.int .i64 s.f3) ∧ w'.cell? ⟨Q, 4, none⟩ = some (.int .i64 s.f4))) (by kernel_rfl) (by go_keep) (fun hHeld => ?_)
  have cFz := cur_drew cF
  have BmFz : Blk w2.drew _ _ _ := BmF.all (low_drewN w2 1)
  have gFz := grown_trans gF (drew_grown _ _)
  obtain ⟨wdT2, hwd⟩ : ∃ v, w2.drew = v := ⟨_, rfl⟩
  rw [hwd] at hHeld cFz BmFz gFz ⊢
  clear hwd
  refine wpAnyH_take (i := 0) (v := ?_) rfl (by kernel_rfl) (by kernel_rfl) (by kernel_rfl) (fun _ _ _ h => h) (Or.inl ⟨by rfl, ?_⟩) (by assumption) ?_
  rotate_left
  · intro w hSw; (try dsimp only at hSw); go_simp; (try with_reducible rfl)
  (try simp only [Act.put, List.getElem_toArray, List.getElem_cons_zero, List.setIfInBounds_toArray, List.set_cons_zero, List.set_cons_succ])
  refine wpAnyH_take (i := 1) (v := ?_) rfl (by kernel_rfl) (by kernel_rfl) (by kernel_rfl) (fun _ _ _ h => h) (Or.inl ⟨by rfl, ?_⟩) (by assumption) ?_
  rotate_left
  · intro w hSw; (try dsimp only at hSw); go_simp; (try with_reducible rfl)
  (try simp only [Act.put, List.getElem_toArray, List.getElem_cons_zero, List.getElem_cons_succ, List.setIfInBounds_toArray, List.set_cons_zero, List.set_cons_succ])
  clear hHeld
  refine wpAnyH_ready (rs := [2]) (by kernel_rfl) (by simp) ?_
  refine AllReadyH.cons rfl (fun K hK => ?_) AllReadyH.nil
  go_simp
  refine (workSheet_any p_ (0 + 100) 5 5 _ cFz (by omega) ⟨by omega, by omega⟩ ⟨by omega, by omega⟩).mono ?_
  rintro e wq2001 ⟨u, rfl, hu, hc, hg⟩
  clear cFz
  have cFz := hc
  replace BmFz := BmFz.mark hg (fun z hz => by cases hz; omega)
  replace gFz := grown_trans gFz hg
  clear hc hg
  refine hK.out _ _ (by exact ⟨BmFz.cell 0, BmFz.cell 1, BmFz.cell 2, BmFz.cell 3, BmFz.cell 4⟩) (fun hHeld => ?_)
  clear hK K
  (try simp only [Act.put, List.getElem_toArray, List.getElem_cons_zero, List.getElem_cons_succ, List.setIfInBounds_toArray, List.set_cons_zero, List.set_cons_succ])
  clear hHeld
  refine wpAnyH_ready (rs := [3]) (by kernel_rfl) (by simp) ?_
  refine AllReadyH.cons rfl (fun K hK => ?_) AllReadyH.nil
  have R0s := R0.mark gFz (fun z hz => by cases hz; omega)
  have R1s := R1.mark gFz (fun z hz => by cases hz; omega)
  have HBs := HB.trans (grown_below (B := w.heap.size) gFz (by omega) HB.size)
  have hcur := (show True from trivial)
  have g0 := R0s.cell 0
  have g1 := R0s.cell 1
  have g2 := R0s.cell 2
  have g3 := R0s.cell 3
  have g4 := R0s.cell 4
  have z0 := R0s.frozen 0
  have z1 := R0s.frozen 1
  have z2 := R0s.frozen 2
  have z3 := R0s.frozen 3
  have z4 := R0s.frozen 4
  have R0t := set5_blk (a := (.int .i64 s.f0)) (b := (.int .i64 s.f1)) (c := (.int .i64 s.f2)) (d := (.int .i64 s.f3)) (e := (.int .i64 s.f4)) R0s
  have R1t := far5_blk (p := w.heap.size) (a := (.int .i64 s.f0)) (b := (.int .i64 s.f1)) (c := (.int .i64 s.f2)) (d := (.int .i64 s.f3)) (e := (.int .i64 s.f4)) R1s (by omega)
  have HBt := below5 (p := w.heap.size) (a := (.int .i64 s.f0)) (b := (.int .i64 s.f1)) (c := (.int .i64 s.f2)) (d := (.int .i64 s.f3)) (e := (.int .i64 s.f4)) HBs (by omega)
  have BmT := far5_blk (p := w.heap.size) (a := (.int .i64 s.f0)) (b := (.int .i64 s.f1)) (c := (.int .i64 s.f2)) (d := (.int .i64 s.f3)) (e := (.int .i64 s.f4)) BmFz (by omega)
  go_simp
  obtain ⟨ws2002, hws⟩ : ∃ v, (((((wq2001.setCell ⟨w.heap.size, 0, none⟩ (.int .i64 s.f0)).setCell ⟨w.heap.size, 1, none⟩ (.int .i64 s.f1)).setCell ⟨w.heap.size, 2, none⟩ (.int .i64 s.f2)).setCell ⟨w.heap.size, 3, none⟩ (.int .i64 s.f3)).setCell ⟨w.heap.size, 4, none⟩ (.int .i64 s.f4)) = v := ⟨_, rfl⟩
  rw [hws] at R0t R1t HBt BmT ⊢
  clear hws g0 g1 g2 g3 g4 z0 z1 z2 z3 z4 R0s R1s HBs
  have R0s := R0t
  have R1s := R1t
  have HBs := HBt
  clear R0t R1t HBt
  refine hK.out _ _ (by exact ⟨BmT.cell 0, BmT.cell 1, BmT.cell 2, BmT.cell 3, BmT.cell 4⟩) (fun hHeld => ?_)
  clear hK K
  (try simp only [Act.put, List.getElem_toArray, List.getElem_cons_zero, List.getElem_cons_succ, List.setIfInBounds_toArray, List.set_cons_zero, List.set_cons_succ])
  clear hHeld
  refine wpAnyH_ready (rs := [4]) (by kernel_rfl) (by simp) ?_
  refine AllReadyH.cons rfl (fun K hK => ?_) AllReadyH.nil
  have g0 := R1s.cell 0
  have g1 := R1s.cell 1
  have g2 := R1s.cell 2
  have g3 := R1s.cell 3
  have g4 := R1s.cell 4
  have z0 := R1s.frozen 0
  have z1 := R1s.frozen 1
  have z2 := R1s.frozen 2
  have z3 := R1s.frozen 3
  have z4 := R1s.frozen 4
  have R0t := far5_blk (p := (w.heap.size + 1)) (a := (.int .i64 u.f0)) (b := (.int .i64 u.f1)) (c := (.int .i64 u.f2)) (d := (.int .i64 u.f3)) (e := (.int .i64 u.f4)) R0s (by omega)
  have R1t := set5_blk (a := (.int .i64 u.f0)) (b := (.int .i64 u.f1)) (c := (.int .i64 u.f2)) (d := (.int .i64 u.f3)) (e := (.int .i64 u.f4)) R1s
  have HBt := below5 (p := (w.heap.size + 1)) (a := (.int .i64 u.f0)) (b := (.int .i64 u.f1)) (c := (.int .i64 u.f2)) (d := (.int .i64 u.f3)) (e := (.int .i64 u.f4)) HBs (by omega)
  have BmT := far5_blk (p := (w.heap.size + 1)) (a := (.int .i64 u.f0)) (b := (.int .i64 u.f1)) (c := (.int .i64 u.f2)) (d := (.int .i64 u.f3)) (e := (.int .i64 u.f4)) BmT (by omega)
  go_simp
  obtain ⟨ws2003, hws⟩ : ∃ v, (((((ws2002.setCell ⟨(w.heap.size + 1), 0, none⟩ (.int .i64 u.f0)).setCell ⟨(w.heap.size + 1), 1, none⟩ (.int .i64 u.f1)).setCell ⟨(w.heap.size + 1), 2, none⟩ (.int .i64 u.f2)).setCell ⟨(w.heap.size + 1), 3, none⟩ (.int .i64 u.f3)).setCell ⟨(w.heap.size + 1), 4, none⟩ (.int .i64 u.f4)) = v := ⟨_, rfl⟩
  rw [hws] at R0t R1t HBt BmT ⊢
  clear hws g0 g1 g2 g3 g4 z0 z1 z2 z3 z4 R0s R1s HBs
  have R0s := R0t
  have R1s := R1t
  have HBs := HBt
  clear R0t R1t HBt
  refine hK.out _ _ (by exact ⟨BmT.cell 0, BmT.cell 1, BmT.cell 2, BmT.cell 3, BmT.cell 4⟩) (fun hHeld => ?_)
  clear hK K
  (try simp only [Act.put, List.getElem_toArray, List.getElem_cons_zero, List.getElem_cons_succ, List.setIfInBounds_toArray, List.set_cons_zero, List.set_cons_succ])
  refine wpAnyH_done (by kernel_rfl) ?_ _
  refine NoPanic.normal ?_
  have g00 := R0s.cell 0
  have g01 := R0s.cell 1
  have g02 := R0s.cell 2
  have g03 := R0s.cell 3
  have g04 := R0s.cell 4
  have g10 := R1s.cell 0
  have g11 := R1s.cell 1
  have g12 := R1s.cell 2
  have g13 := R1s.cell 3
  have g14 := R1s.cell 4
  go_wp2
  exact bodyPost_ret (v := .tuple #[.agg #[.int .i64 s.f0, .int .i64 s.f1, .int .i64 s.f2, .int .i64 s.f3, .int .i64 s.f4], .agg #[.int .i64 u.f0, .int .i64 u.f1, .int .i64 u.f2, .int .i64 u.f3, .int .i64 u.f4]]) (by first | (simp [results, Try.results18, go_sem, g00, g01, g02, g03, g04, g10, g11, g12, g13, g14]; done) | simp [results, Try.results18, go_sem, *]) rfl ⟨s, u, rfl, hs, hu, HBs⟩
set_option maxRecDepth 100000 in
set_option maxHeartbeats 16000000 in
theorem drawKnotsForWage_any (A : Option Addr) (n c B : Nat) (w : World) (h : RdB w B A n c) (hB : B ≤ w.heap.size) (hn : n ≤ 65536) : Calls Try.prog 12 #[.slice A n c] w (GaveRI w) := by
  have R0 : Blk ((w.alloc (.cells #[.int .i64 0, .int .i64 0, .int .i64 0, .int .i64 0, .int .i64 0] 25)).alloc (.cells #[.slice A n c, .int .i64 0, .int .u64 0] 52)) (w.heap.size) _ _ := ((Blk.new w #[.int .i64 0, .int .i64 0, .int .i64 0, .int .i64 0, .int .i64 0] 25).alloc (.cells #[.slice A n c, .int .i64 0, .int .u64 0] 52)).at_ (by simp)
  have hc0 : Cur ((w.alloc (.cells #[.int .i64 0, .int .i64 0, .int .i64 0, .int .i64 0, .int .i64 0] 25)).alloc (.cells #[.slice A n c, .int .i64 0, .int .u64 0] 52)) (w.heap.size + 1) 0 := by
    have := cur_new5 (h.alloc hB (.cells #[.int .i64 0, .int .i64 0, .int .i64 0, .int .i64 0, .int .i64 0] 25)) (by simp; omega) hn
    simpa using this
  have HB : Below w.heap.size w ((w.alloc (.cells #[.int .i64 0, .int .i64 0, .int .i64 0, .int .i64 0, .int .i64 0] 25)).alloc (.cells #[.slice A n c, .int .i64 0, .int .u64 0] 52)) := by repeat (first | assumption | exact Below.refl _ _ | refine belowN ?_ _ | refine belowD ?_ | (refine Below.setCell ?_ (by first | (simp; done) | (simp; omega) | omega) _) | (refine Below.alloc ?_ (by first | (simp; done) | (simp; omega) | omega) _))
  clear h
  obtain ⟨p_, hp_⟩ : ∃ z, w.heap.size + 1 = z := ⟨_, rfl⟩
  rw [hp_] at hc0
  go_enter Try.func12, Try.ntmps12
  go_wp2_with fail
  (try rw [show w.heap.size + 1 + 1 = p_ by omega])
  (try rw [hp_])
  refine (rates14_any p_ 0 _ hc0 (by omega)).mono ?_
  rintro e w1 ⟨s, rfl, hs, hc1, hg1⟩
  replace R0 := R0.mark hg1 (fun z hz => by cases hz; omega)
  replace HB := HB.trans (grown_below hg1 (by omega) HB.size)
  clear hc0 hg1
  have hq1 := hc1.lt
  have hal := (Below.refl w1.heap.size w1).alloc (Nat.le_refl _) (.cells #[.int .i64 s.f0, .int .i64 s.f1, .int .i64 s.f2, .int .i64 s.f3, .int .i64 s.f4] 25)
  have Bm := Blk.new w1 #[.int .i64 s.f0, .int .i64 s.f1, .int .i64 s.f2, .int .i64 s.f3, .int .i64 s.f4] 25
  replace R0 := R0.all hal
  have cF := hc1.all hal
  replace HB := HB.trans (hal.mono HB.size)
  clear hc1 hal
  have es0 := Bm.cell 0
  go_upto_region 3 with fail
  clear es0
  obtain ⟨w2, hw2⟩ : ∃ v, w1.alloc (.cells #[.int .i64 s.f0, .int .i64 s.f1, .int .i64 s.f2, .int .i64 s.f3, .int .i64 s.f4] 25) = v := ⟨_, rfl⟩
  rw [hw2] at Bm cF HB R0 ⊢
  obtain ⟨Q, hQ⟩ : ∃ v, w1.heap.size = v := ⟨_, rfl⟩
  rw [hQ] at Bm hq1 ⊢
  clear hw2 hQ
  have BmF := Bm
  have gF : w2.grownBy w2 (some p_) := World.grownBy.refl _ _
  have ex0 := Bm.cell 0
  have ex1 := Bm.cell 1
  have ex2 := Bm.cell 2
  have ex3 := Bm.cell 3
  have ex4 := Bm.cell 4
  go_wp2
  refine' (fun (keyT30 : Bool → (_ : Prop)) => ?main) ?keyT30
  case main =>
    refine wp_region_noPanic ?_
    refine wp_region_held_drew (S := (fun w' => w'.cell? ⟨Q, 0, none⟩ = some (.int .i64 s.f0) ∧ w'.cell? ⟨Q, 1, none⟩ = some (.int .i64 s.f1) ∧ w'.cell? ⟨Q, 2, none⟩ = some (.int .i64 s.f2) ∧ w'.cell? ⟨Q, 3, none⟩ = some (.int .i64 s.f3) ∧ w'.cell? ⟨Q, 4, none⟩ = some (.int .i64 s.f4))) (by kernel_rfl) (by go_keep) (fun hHeld => ?_)
    have cFz := cur_drew cF
    have BmFz : Blk w2.drew _ _ _ := BmF.all (low_drewN w2 1)
    have gFz := grown_trans gF (drew_grown _ _)
    obtain ⟨wdT3, hwd⟩ : ∃ v, w2.drew = v := ⟨_, rfl⟩
    rw [hwd] at hHeld cFz BmFz gFz ⊢
    clear hwd
    refine wpAnyH_take (i := 0) (v := ?_) rfl (by kernel_rfl) (by kernel_rfl) (by kernel_rfl) (fun _ _ _ h => h) (Or.inl ⟨by rfl, ?_⟩) (by assumption) ?_
    rotate_left
    · intro w hSw; (try dsimp only at hSw); go_simp; (try with_reducible rfl)
    (try simp only [Act.put, List.getElem_toArray, List.getElem_cons_zero, List.setIfInBounds_toArray, List.set_cons_zero, List.set_cons_succ])
    refine wpAnyH_take (i := 1) (v := ?_) rfl (by kernel_rfl) (by kernel_rfl) (by kernel_rfl) (fun _ _ _ h => h) (Or.inl ⟨by rfl, ?_⟩) (by assumption) ?_
    rotate_left
    · intro w hSw; (try dsimp only at hSw); go_simp; (try with_reducible rfl)
    (try simp only [Act.put, List.getElem_toArray, List.getElem_cons_zero, List.getElem_cons_succ, List.setIfInBounds_toArray, List.set_cons_zero, List.set_cons_succ])
    refine wpAnyH_take (i := 3) (v := ?_) rfl (by kernel_rfl) (by kernel_rfl) (by kernel_rfl) (fun _ _ _ h => h) (Or.inl ⟨by rfl, ?_⟩) (by assumption) ?_
    rotate_left
    · intro w hSw; (try dsimp only at hSw); go_simp; (try with_reducible rfl)
    (try simp only [Act.put, List.getElem_toArray, List.getElem_cons_zero, List.getElem_cons_succ, List.setIfInBounds_toArray, List.set_cons_zero, List.set_cons_succ])
    clear hHeld
    refine wpAnyH_ready (rs := [2, 4]) (by kernel_rfl) (by simp) ?_
    refine AllReadyH.cons rfl (fun K hK => ?_) ?_
    · skip
      go_simp
      have hal := (Below.refl wdT3.heap.size wdT3).alloc (Nat.le_refl _) (.cells #[.int .i64 0, .int .i64 1, .int .i64 1000, .int .i64 2500, .int .i64 3000, .int .i64 90000, .int .i64 1000000, .int .i64 (-1), .int .i64 1000001] 3)
      have hcl := cFz.lt
      replace cFz := cFz.all hal
      replace BmFz := BmFz.all hal
      replace gFz := grown_trans gFz (below_grown (row := some p_) hal)
      have Lit2 : Blk _ (wdT3.heap.size) _ _ := Blk.new wdT3 #[.int .i64 0, .int .i64 1, .int .i64 1000, .int .i64 2500, .int .i64 3000, .int .i64 90000, .int .i64 1000000, .int .i64 (-1), .int .i64 1000001] 3
      obtain ⟨q2, hq⟩ : ∃ q, wdT3.heap.size = q := ⟨_, rfl⟩
      rw [hq] at Lit2 ⊢
      have hqp2 : q2 ≠ p_ := by omega
      clear hcl
      obtain ⟨wq3001, hw⟩ : ∃ v, wdT3.alloc (.cells #[.int .i64 0, .int .i64 1, .int .i64 1000, .int .i64 2500, .int .i64 3000, .int .i64 90000, .int .i64 1000000, .int .i64 (-1), .int .i64 1000001] 3) = v := ⟨_, rfl⟩
      rw [hw] at cFz BmFz gFz Lit2 ⊢
      clear hal hw hq
      refine hK.out _ _ (by exact ⟨BmFz.cell 0, BmFz.cell 1, BmFz.cell 2, BmFz.cell 3, BmFz.cell 4⟩) (fun hHeld => ?_)
      clear hK K
      (try simp only [Act.put, List.getElem_toArray, List.getElem_cons_zero, List.getElem_cons_succ, List.setIfInBounds_toArray, List.set_cons_zero, List.set_cons_succ])
      clear hHeld
      refine wpAnyH_ready (rs := [4]) (by kernel_rfl) (by simp) ?_
      refine AllReadyH.cons rfl (fun K hK => ?_) AllReadyH.nil
      go_simp
      refine (pick_any p_ (0 + 100) 24 _ cFz (by omega) (by omega) (by omega)).mono ?_
      rintro e wq3002 ⟨x4, rfl, xq4, hc, hg⟩
      obtain ⟨m4, hm⟩ : ∃ m : Nat, x4 / 11 = (m : Int) := ⟨(x4 / 11).toNat, by omega⟩
      have ht4 : Int.tdiv x4 11 = (m4 : Int) := by rw [Int.tdiv_eq_ediv_of_nonneg (by omega), hm]
      obtain ⟨n4, hn_⟩ : ∃ z : Nat, 7 + m4 = z := ⟨_, rfl⟩
      have hb4 : 7 ≤ n4 ∧ n4 ≤ 9 := by omega
      have he4 : IntKind.i64.wrap (7 + (m4 : Int)) = (n4 : Int) := by rw [IntWalk.i64_in _ (by omega)]; omega
      have hx4 : 0 ≤ x4 := by omega
      have hw4 : IntKind.i64.wrap (m4 : Int) = (m4 : Int) := IntWalk.i64_in _ (by omega)
      clear hm hn_ xq4
      clear cFz
      have cFz := hc
      replace BmFz := BmFz.mark hg (fun z hz => by cases hz; omega)
      replace gFz := grown_trans gFz hg
      replace Lit2 := Lit2.mark hg (fun z hz => by cases hz; omega)
      clear hc hg
      refine hK.out _ _ (by exact ⟨BmFz.cell 0, BmFz.cell 1, BmFz.cell 2, BmFz.cell 3, BmFz.cell 4⟩) (fun hHeld => ?_)
      clear hK K
      (try simp only [Act.put, List.getElem_toArray, List.getElem_cons_zero, List.getElem_cons_succ, List.setIfInBounds_toArray, List.set_cons_zero, List.set_cons_succ])
      refine wpAnyH_take (i := 5) (v := ?_) rfl (by kernel_rfl) (by kernel_rfl) (by kernel_rfl) (fun _ _ _ h => h) (Or.inl ⟨by rfl, ?_⟩) (by assumption) ?_
      rotate_left
      · intro w hSw; (try dsimp only at hSw); go_simp; (try with_reducible rfl)
      (try simp only [Act.put, List.getElem_toArray, List.getElem_cons_zero, List.getElem_cons_succ, List.setIfInBounds_toArray, List.set_cons_zero, List.set_cons_succ])
      refine wpAnyH_take (i := 6) (v := ?_) rfl (by kernel_rfl) (by kernel_rfl) (by kernel_rfl) (fun _ _ _ h => h) (Or.inl ⟨by rfl, ?_⟩) (by assumption) ?_
      rotate_left
      · intro w hSw; (try dsimp only at hSw); go_simp; (try with_reducible rfl)
      (try simp only [Act.put, List.getElem_toArray, List.getElem_cons_zero, List.getElem_cons_succ, List.setIfInBounds_toArray, List.set_cons_zero, List.set_cons_succ])
      refine wpAnyH_take (i := 7) (v := .slice (some ⟨q2, 0, none⟩) n4 9) rfl (by kernel_rfl) (by kernel_rfl) (by kernel_rfl) (fun _ _ _ h => h) (Or.inl ⟨by rfl, ?_⟩) (by assumption) ?_
      · intro w hSw; (try dsimp only at hSw); go_simp; (try simp only [hw4, he4]); (try simp); (try (intro hx; exfalso; omega))
      (try simp only [Act.put, List.getElem_toArray, List.getElem_cons_zero, List.getElem_cons_succ, List.setIfInBounds_toArray, List.set_cons_zero, List.set_cons_succ])
      revert hHeld; revert hx4; revert hw4; revert ht4; revert hqp2; revert he4; revert hb4; revert Lit2; revert gFz; revert BmFz; revert cFz; revert x4; revert n4; revert m4; revert q2; revert wq3002
      exact keyT30 true
    refine AllReadyH.cons rfl (fun K hK => ?_) AllReadyH.nil
    go_simp
    refine (pick_any p_ (0 + 100) 24 _ cFz (by omega) (by omega) (by omega)).mono ?_
    rintro e wq3003 ⟨x4, rfl, xq4, hc, hg⟩
    obtain ⟨m4, hm⟩ : ∃ m : Nat, x4 / 11 = (m : Int) := ⟨(x4 / 11).toNat, by omega⟩
    have ht4 : Int.tdiv x4 11 = (m4 : Int) := by rw [Int.tdiv_eq_ediv_of_nonneg (by omega), hm]
    obtain ⟨n4, hn_⟩ : ∃ z : Nat, 7 + m4 = z := ⟨_, rfl⟩
    have hb4 : 7 ≤ n4 ∧ n4 ≤ 9 := by omega
    have he4 : IntKind.i64.wrap (7 + (m4 : Int)) = (n4 : Int) := by rw [IntWalk.i64_in _ (by omega)]; omega
    have hx4 : 0 ≤ x4 := by omega
    have hw4 : IntKind.i64.wrap (m4 : Int) = (m4 : Int) := IntWalk.i64_in _ (by omega)
    clear hm hn_ xq4
    clear cFz
    have cFz := hc
    replace BmFz := BmFz.mark hg (fun z hz => by cases hz; omega)
    replace gFz := grown_trans gFz hg
    clear hc hg
    refine hK.out _ _ (by exact ⟨BmFz.cell 0, BmFz.cell 1, BmFz.cell 2, BmFz.cell 3, BmFz.cell 4⟩) (fun hHeld => ?_)
    clear hK K
    (try simp only [Act.put, List.getElem_toArray, List.getElem_cons_zero, List.getElem_cons_succ, List.setIfInBounds_toArray, List.set_cons_zero, List.set_cons_succ])
    refine wpAnyH_take (i := 5) (v := ?_) rfl (by kernel_rfl) (by kernel_rfl) (by kernel_rfl) (fun _ _ _ h => h) (Or.inl ⟨by rfl, ?_⟩) (by assumption) ?_
    rotate_left
    · intro w hSw; (try dsimp only at hSw); go_simp; (try with_reducible rfl)
    (try simp only [Act.put, List.getElem_toArray, List.getElem_cons_zero, List.getElem_cons_succ, List.setIfInBounds_toArray, List.set_cons_zero, List.set_cons_succ])
    refine wpAnyH_take (i := 6) (v := ?_) rfl (by kernel_rfl) (by kernel_rfl) (by kernel_rfl) (fun _ _ _ h => h) (Or.inl ⟨by rfl, ?_⟩) (by assumption) ?_
    rotate_left
    · intro w hSw; (try dsimp only at hSw); go_simp; (try with_reducible rfl)
    (try simp only [Act.put, List.getElem_toArray, List.getElem_cons_zero, List.getElem_cons_succ, List.setIfInBounds_toArray, List.set_cons_zero, List.set_cons_succ])
    clear hHeld
    refine wpAnyH_ready (rs := [2]) (by kernel_rfl) (by simp) ?_
    refine AllReadyH.cons rfl (fun K hK => ?_) AllReadyH.nil
    go_simp
    have hal := (Below.refl wq3003.heap.size wq3003).alloc (Nat.le_refl _) (.cells #[.int .i64 0, .int .i64 1, .int .i64 1000, .int .i64 2500, .int .i64 3000, .int .i64 90000, .int .i64 1000000, .int .i64 (-1), .int .i64 1000001] 3)
    have hcl := cFz.lt
    replace cFz := cFz.all hal
    replace BmFz := BmFz.all hal
    replace gFz := grown_trans gFz (below_grown (row := some p_) hal)
    have Lit2 : Blk _ (wq3003.heap.size) _ _ := Blk.new wq3003 #[.int .i64 0, .int .i64 1, .int .i64 1000, .int .i64 2500, .int .i64 3000, .int .i64 90000, .int .i64 1000000, .int .i64 (-1), .int .i64 1000001] 3
    obtain ⟨q2, hq⟩ : ∃ q, wq3003.heap.size = q := ⟨_, rfl⟩
    rw [hq] at Lit2 ⊢
    have hqp2 : q2 ≠ p_ := by omega
    clear hcl
    obtain ⟨wq3004, hw⟩ : ∃ v, wq3003.alloc (.cells #[.int .i64 0, .int .i64 1, .int .i64 1000, .int .i64 2500, .int .i64 3000, .int .i64 90000, .int .i64 1000000, .int .i64 (-1), .int .i64 1000001] 3) = v := ⟨_, rfl⟩
    rw [hw] at cFz BmFz gFz Lit2 ⊢
    clear hal hw hq
    refine hK.out _ _ (by exact ⟨BmFz.cell 0, BmFz.cell 1, BmFz.cell 2, BmFz.cell 3, BmFz.cell 4⟩) (fun hHeld => ?_)
    clear hK K
    (try simp only [Act.put, List.getElem_toArray, List.getElem_cons_zero, List.getElem_cons_succ, List.setIfInBounds_toArray, List.set_cons_zero, List.set_cons_succ])
    refine wpAnyH_take (i := 7) (v := .slice (some ⟨q2, 0, none⟩) n4 9) rfl (by kernel_rfl) (by kernel_rfl) (by kernel_rfl) (fun _ _ _ h => h) (Or.inl ⟨by rfl, ?_⟩) (by assumption) ?_
    · intro w hSw; (try dsimp only at hSw); go_simp; (try simp only [hw4, he4]); (try simp); (try (intro hx; exfalso; omega))
    (try simp only [Act.put, List.getElem_toArray, List.getElem_cons_zero, List.getElem_cons_succ, List.setIfInBounds_toArray, List.set_cons_zero, List.set_cons_succ])
    revert hHeld; revert hx4; revert hw4; revert ht4; revert hqp2; revert he4; revert hb4; revert Lit2; revert gFz; revert BmFz; revert cFz; revert x4; revert n4; revert m4; revert q2; revert wq3004
    exact keyT30 true
  case keyT30 =>
    intro _ wq3002 q2 m4 n4 x4 cFz BmFz gFz Lit2 hb4 he4 hqp2 ht4 hw4 hx4 hHeld
    clear hHeld
    refine wpAnyH_ready (rs := [8]) (by kernel_rfl) (by simp) ?_
    refine AllReadyH.cons rfl (fun K hK => ?_) AllReadyH.nil
    go_simp
    refine (among_head p_ ((0 + 100) + 2) q2 9 n4 _ [0, 1, 1000, 2500, 3000, 90000, 1000000, -1, 1000001] _ cFz (by omega) (rd5 (xs := [0, 1, 1000, 2500, 3000, 90000, 1000000, -1, 1000001]) Lit2 (i64_litb (by decide)) (by decide)) (by omega) (by omega) (by omega) (by omega)).mono ?_
    rintro e wq3005 ⟨y8, rfl, hy8, hc, hg⟩
    have Iy8 := i64_litb (l := [0, 1, 1000, 2500, 3000, 90000, 1000000, -1, 1000001]) (by decide) y8 hy8
    clear hy8
    clear cFz
    have cFz := hc
    replace BmFz := BmFz.mark hg (fun z hz => by cases hz; omega)
    replace gFz := grown_trans gFz hg
    replace Lit2 := Lit2.mark hg (fun z hz => by cases hz; omega)
    clear hc hg
    refine hK.out _ _ (by exact ⟨BmFz.cell 0, BmFz.cell 1, BmFz.cell 2, BmFz.cell 3, BmFz.cell 4⟩) (fun hHeld => ?_)
    clear hK K
    (try simp only [Act.put, List.getElem_toArray, List.getElem_cons_zero, List.getElem_cons_succ, List.setIfInBounds_toArray, List.set_cons_zero, List.set_cons_succ])
    clear hHeld
    refine wpAnyH_ready (rs := [9]) (by kernel_rfl) (by simp) ?_
    refine AllReadyH.cons rfl (fun K hK => ?_) AllReadyH.nil
    have R0s := R0.mark gFz (fun z hz => by cases hz; omega)
    have HBs := HB.trans (grown_below (B := w.heap.size) gFz (by omega) HB.size)
    have hcur := (show True from trivial)
    have g0 := R0s.cell 0
    have g1 := R0s.cell 1
    have g2 := R0s.cell 2
    have g3 := R0s.cell 3
    have g4 := R0s.cell 4
    have z0 := R0s.frozen 0
    have z1 := R0s.frozen 1
    have z2 := R0s.frozen 2
    have z3 := R0s.frozen 3
    have z4 := R0s.frozen 4
    have R0t := set5_blk (a := (.int .i64 s.f0)) (b := (.int .i64 s.f1)) (c := (.int .i64 s.f2)) (d := (.int .i64 s.f3)) (e := (.int .i64 s.f4)) R0s
    have HBt := below5 (p := w.heap.size) (a := (.int .i64 s.f0)) (b := (.int .i64 s.f1)) (c := (.int .i64 s.f2)) (d := (.int .i64 s.f3)) (e := (.int .i64 s.f4)) HBs (by omega)
    have BmT := far5_blk (p := w.heap.size) (a := (.int .i64 s.f0)) (b := (.int .i64 s.f1)) (c := (.int .i64 s.f2)) (d := (.int .i64 s.f3)) (e := (.int .i64 s.f4)) BmFz (by omega)
    go_simp
    obtain ⟨ws3006, hws⟩ : ∃ v, (((((wq3005.setCell ⟨w.heap.size, 0, none⟩ (.int .i64 s.f0)).setCell ⟨w.heap.size, 1, none⟩ (.int .i64 s.f1)).setCell ⟨w.heap.size, 2, none⟩ (.int .i64 s.f2)).setCell ⟨w.heap.size, 3, none⟩ (.int .i64 s.f3)).setCell ⟨w.heap.size, 4, none⟩ (.int .i64 s.f4)) = v := ⟨_, rfl⟩
    rw [hws] at R0t HBt BmT ⊢
    clear hws g0 g1 g2 g3 g4 z0 z1 z2 z3 z4 R0s HBs
    have R0s := R0t
    have HBs := HBt
    clear R0t HBt
    refine hK.out _ _ (by exact ⟨BmT.cell 0, BmT.cell 1, BmT.cell 2, BmT.cell 3, BmT.cell 4⟩) (fun hHeld => ?_)
    clear hK K
    (try simp only [Act.put, List.getElem_toArray, List.getElem_cons_zero, List.getElem_cons_succ, List.setIfInBounds_toArray, List.set_cons_zero, List.set_cons_succ])
    refine wpAnyH_take (i := 10) (v := ?_) rfl (by kernel_rfl) (by kernel_rfl) (by kernel_rfl) (fun _ _ _ h => h) (Or.inl ⟨by rfl, ?_⟩) (by assumption) ?_
    rotate_left
    · intro w hSw; (try dsimp only at hSw); go_simp; (try with_reducible rfl)
    (try simp only [Act.put, List.getElem_toArray, List.getElem_cons_zero, List.getElem_cons_succ, List.setIfInBounds_toArray, List.set_cons_zero, List.set_cons_succ])
    refine wpAnyH_done (by kernel_rfl) ?_ _
    refine NoPanic.normal ?_
    have g00 := R0s.cell 0
    have g01 := R0s.cell 1
    have g02 := R0s.cell 2
    have g03 := R0s.cell 3
    have g04 := R0s.cell 4
    go_wp2
    exact bodyPost_ret (v := .tuple #[.agg #[.int .i64 s.f0, .int .i64 s.f1, .int .i64 s.f2, .int .i64 s.f3, .int .i64 s.f4], .int .i64 y8]) (by first | (simp [results, Try.results12, go_sem, g00, g01, g02, g03, g04]; done) | simp [results, Try.results12, go_sem, *]) rfl ⟨s, y8, rfl, hs, Iy8, HBs⟩
set_option maxRecDepth 100000 in
set_option maxHeartbeats 16000000 in
theorem drawWagesBetween_any (A : Option Addr) (n c B : Nat) (w : World) (h : RdB w B A n c) (hB : B ≤ w.heap.size) (hn : n ≤ 65536) : Calls Try.prog 15 #[.slice A n c] w (GaveRS3 w) := by
  have R0 : Blk ((w.alloc (.cells #[.int .i64 0, .int .i64 0, .int .i64 0, .int .i64 0, .int .i64 0] 25)).alloc (.cells #[.slice A n c, .int .i64 0, .int .u64 0] 52)) (w.heap.size) _ _ := ((Blk.new w #[.int .i64 0, .int .i64 0, .int .i64 0, .int .i64 0, .int .i64 0] 25).alloc (.cells #[.slice A n c, .int .i64 0, .int .u64 0] 52)).at_ (by simp)
  have hc0 : Cur ((w.alloc (.cells #[.int .i64 0, .int .i64 0, .int .i64 0, .int .i64 0, .int .i64 0] 25)).alloc (.cells #[.slice A n c, .int .i64 0, .int .u64 0] 52)) (w.heap.size + 1) 0 := by
    have := cur_new5 (h.alloc hB (.cells #[.int .i64 0, .int .i64 0, .int .i64 0, .int .i64 0, .int .i64 0] 25)) (by simp; omega) hn
    simpa using this
  have HB : Below w.heap.size w ((w.alloc (.cells #[.int .i64 0, .int .i64 0, .int .i64 0, .int .i64 0, .int .i64 0] 25)).alloc (.cells #[.slice A n c, .int .i64 0, .int .u64 0] 52)) := by repeat (first | assumption | exact Below.refl _ _ | refine belowN ?_ _ | refine belowD ?_ | (refine Below.setCell ?_ (by first | (simp; done) | (simp; omega) | omega) _) | (refine Below.alloc ?_ (by first | (simp; done) | (simp; omega) | omega) _))
  clear h
  obtain ⟨p_, hp_⟩ : ∃ z, w.heap.size + 1 = z := ⟨_, rfl⟩
  rw [hp_] at hc0
  go_enter Try.func15, Try.ntmps15
  go_wp2_with fail
  (try rw [show w.heap.size + 1 + 1 = p_ by omega])
  (try rw [hp_])
  refine (rates14_any p_ 0 _ hc0 (by omega)).mono ?_
  rintro e w1 ⟨s, rfl, hs, hc1, hg1⟩
  replace R0 := R0.mark hg1 (fun z hz => by cases hz; omega)
  replace HB := HB.trans (grown_below hg1 (by omega) HB.size)
  clear hc0 hg1
  have hq1 := hc1.lt
  have hal := (Below.refl w1.heap.size w1).alloc (Nat.le_refl _) (.cells #[.int .i64 s.f0, .int .i64 s.f1, .int .i64 s.f2, .int .i64 s.f3, .int .i64 s.f4] 25)
  have Bm := Blk.new w1 #[.int .i64 s.f0, .int .i64 s.f1, .int .i64 s.f2, .int .i64 s.f3, .int .i64 s.f4] 25
  replace R0 := R0.all hal
  have cF := hc1.all hal
  replace HB := HB.trans (hal.mono HB.size)
  clear hc1 hal
  have es0 := Bm.cell 0
  go_wp2_with fail
  clear es0
  obtain ⟨w2, hw2⟩ : ∃ v, w1.alloc (.cells #[.int .i64 s.f0, .int .i64 s.f1, .int .i64 s.f2, .int .i64 s.f3, .int .i64 s.f4] 25) = v := ⟨_, rfl⟩
  rw [hw2] at Bm cF HB R0 ⊢
  obtain ⟨Q, hQ⟩ : ∃ v, w1.heap.size = v := ⟨_, rfl⟩
  rw [hQ] at Bm hq1 ⊢
  clear hw2 hQ
  refine (workSheets_any p_ (0 + 100) _ cF (by omega)).mono ?_
  rintro e w3 ⟨A8, c8, xs, rfl, hxl, OX, hc, hg⟩
  replace R0 := R0.mark hg (fun z hz => by cases hz; omega)
  replace Bm := Bm.mark hg (fun z hz => by cases hz; omega)
  have hne : ∀ z', (Value.slice A8 xs.length c8).ownBlock = some z' → z' ≠ p_ := fun z' hz' => by have h1 := (OX.bd z' hz').1; have h2 := cF.lt; omega
  replace OX := OX.mono (show w.heap.size + 2 ≤ w2.heap.size by have := cF.lt; omega)
  replace HB := HB.trans (grown_below hg (by omega) HB.size)
  clear cF hg
  have cF := hc
  clear hc
  go_upto_region 4 with fail
  have BmF := Bm
  have gF : w3.grownBy w3 (some p_) := World.grownBy.refl _ _
  have ex0 := Bm.cell 0
  have ex1 := Bm.cell 1
  have ex2 := Bm.cell 2
  have ex3 := Bm.cell 3
  have ex4 := Bm.cell 4
  go_wp2
  refine' (fun (keyT418 : Bool → (_ : Prop)) => ?main) ?keyT418
  case main =>
    refine' (fun (keyT417 : Bool → (_ : Prop)) => ?main) ?keyT417
    case main =>
      refine' (fun (keyT416 : Bool → (_ : Prop)) => ?main) ?keyT416
      case main =>
        refine' (fun (keyT415 : Bool → (_ : Prop)) => ?main) ?keyT415
        case main =>
          refine' (fun (keyT414 : Bool → (_ : Prop)) => ?main) ?keyT414
          case main =>
            refine' (fun (keyT413 : Bool → (_ : Prop)) => ?main) ?keyT413
            case main =>
              refine' (fun (keyT412 : Bool → (_ : Prop)) => ?main) ?keyT412
              case main =>
                refine' (fun (keyT411 : Bool → (_ : Prop)) => ?main) ?keyT411
                case main =>
                  refine' (fun (keyT410 : Bool → (_ : Prop)) => ?main) ?keyT410
                  case main =>
                    refine' (fun (keyT49 : Bool → (_ : Prop)) => ?main) ?keyT49
                    case main =>
                      refine' (fun (keyT48 : Bool → (_ : Prop)) => ?main) ?keyT48
                      case main =>
                        refine' (fun (keyT47 : Bool → (_ : Prop)) => ?main) ?keyT47
                        case main =>
                          refine' (fun (keyT46 : Bool → (_ : Prop)) => ?main) ?keyT46
                          case main =>
                            refine' (fun (keyT45 : Bool → (_ : Prop)) => ?main) ?keyT45
                            case main =>
                              refine' (fun (keyT44 : Bool → (_ : Prop)) => ?main) ?keyT44
                              case main =>
                                refine' (fun (keyT43 : Bool → (_ : Prop)) => ?main) ?keyT43
                                case main =>
                                  refine' (fun (keyT42 : Bool → (_ : Prop)) => ?main) ?keyT42
                                  case main =>
                                    refine' (fun (keyT41 : Bool → (_ : Prop)) => ?main) ?keyT41
                                    case main =>
                                      refine' (fun (keyT40 : Bool → (_ : Prop)) => ?main) ?keyT40
                                      case main =>
                                        refine wp_region_noPanic ?_
                                        refine wp_region_held_drew (S := (fun w' => w'.cell? ⟨Q, 0, none⟩ = some (.int .i64 s.f0) ∧ w'.cell? ⟨Q, 1, none⟩ = some (.int .i64 s.f1) ∧ w'.cell? ⟨Q, 2, none⟩ = some (.int .i64 s.f2) ∧ w'.cell? ⟨Q, 3, none⟩ = some (.int .i64 s.f3) ∧ w'.cell? ⟨Q, 4, none⟩ = some (.int .i64 s.f4))) (by kernel_rfl) (by go_keep) (fun hHeld => ?_)
                                        have cFz := cur_drew cF
                                        have BmFz : Blk w3.drew _ _ _ := BmF.all (low_drewN w3 1)
                                        have gFz := grown_trans gF (drew_grown _ _)
                                        obtain ⟨wdT4, hwd⟩ : ∃ v, w3.drew = v := ⟨_, rfl⟩
                                        rw [hwd] at hHeld cFz BmFz gFz ⊢
                                        clear hwd
                                        refine wpAnyH_take (i := 0) (v := ?_) rfl (by kernel_rfl) (by kernel_rfl) (by kernel_rfl) (fun _ _ _ h => h) (Or.inl ⟨by rfl, ?_⟩) (by assumption) ?_
                                        rotate_left
                                        · intro w hSw; (try dsimp only at hSw); go_simp; (try with_reducible rfl)
                                        (try simp only [Act.put, List.getElem_toArray, List.getElem_cons_zero, List.setIfInBounds_toArray, List.set_cons_zero, List.set_cons_succ])
                                        refine wpAnyH_take (i := 1) (v := ?_) rfl (by kernel_rfl) (by kernel_rfl) (by kernel_rfl) (fun _ _ _ h => h) (Or.inl ⟨by rfl, ?_⟩) (by assumption) ?_
                                        rotate_left
                                        · intro w hSw; (try dsimp only at hSw); go_simp; (try with_reducible rfl)
                                        (try simp only [Act.put, List.getElem_toArray, List.getElem_cons_zero, List.getElem_cons_succ, List.setIfInBounds_toArray, List.set_cons_zero, List.set_cons_succ])
                                        refine wpAnyH_take (i := 2) (v := ?_) rfl (by kernel_rfl) (by kernel_rfl) (by kernel_rfl) (fun _ _ _ h => h) (Or.inl ⟨by rfl, ?_⟩) (by assumption) ?_
                                        rotate_left
                                        · intro w hSw; (try dsimp only at hSw); go_simp; (try with_reducible rfl)
                                        (try simp only [Act.put, List.getElem_toArray, List.getElem_cons_zero, List.getElem_cons_succ, List.setIfInBounds_toArray, List.set_cons_zero, List.set_cons_succ])
                                        refine wpAnyH_take (i := 4) (v := ?_) rfl (by kernel_rfl) (by kernel_rfl) (by kernel_rfl) (fun _ _ _ h => h) (Or.inl ⟨by rfl, ?_⟩) (by assumption) ?_
                                        rotate_left
                                        · intro w hSw; (try dsimp only at hSw); go_simp; (try with_reducible rfl)
                                        (try simp only [Act.put, List.getElem_toArray, List.getElem_cons_zero, List.getElem_cons_succ, List.setIfInBounds_toArray, List.set_cons_zero, List.set_cons_succ])
                                        refine wpAnyH_take (i := 10) (v := ?_) rfl (by kernel_rfl) (by kernel_rfl) (by kernel_rfl) (fun _ _ _ h => h) (Or.inl ⟨by rfl, ?_⟩) (by assumption) ?_
                                        rotate_left
                                        · intro w hSw; (try dsimp only at hSw); go_simp; (try with_reducible rfl)
                                        (try simp only [Act.put, List.getElem_toArray, List.getElem_cons_zero, List.getElem_cons_succ, List.setIfInBounds_toArray, List.set_cons_zero, List.set_cons_succ])
                                        refine wpAnyH_take (i := 12) (v := ?_) rfl (by kernel_rfl) (by kernel_rfl) (by kernel_rfl) (fun _ _ _ h => h) (Or.inl ⟨by rfl, ?_⟩) (by assumption) ?_
                                        rotate_left
                                        · intro w hSw; (try dsimp only at hSw); go_simp; (try with_reducible rfl)
                                        (try simp only [Act.put, List.getElem_toArray, List.getElem_cons_zero, List.getElem_cons_succ, List.setIfInBounds_toArray, List.set_cons_zero, List.set_cons_succ])
                                        refine wpAnyH_take (i := 18) (v := ?_) rfl (by kernel_rfl) (by kernel_rfl) (by kernel_rfl) (fun _ _ _ h => h) (Or.inl ⟨by rfl, ?_⟩) (by assumption) ?_
                                        rotate_left
                                        · intro w hSw; (try dsimp only at hSw); go_simp; (try with_reducible rfl)
                                        (try simp only [Act.put, List.getElem_toArray, List.getElem_cons_zero, List.getElem_cons_succ, List.setIfInBounds_toArray, List.set_cons_zero, List.set_cons_succ])
                                        refine wpAnyH_take (i := 20) (v := ?_) rfl (by kernel_rfl) (by kernel_rfl) (by kernel_rfl) (fun _ _ _ h => h) (Or.inl ⟨by rfl, ?_⟩) (by assumption) ?_
                                        rotate_left
                                        · intro w hSw; (try dsimp only at hSw); go_simp; (try with_reducible rfl)
                                        (try simp only [Act.put, List.getElem_toArray, List.getElem_cons_zero, List.getElem_cons_succ, List.setIfInBounds_toArray, List.set_cons_zero, List.set_cons_succ])
                                        clear hHeld
                                        refine wpAnyH_ready (rs := [3, 5, 11, 19]) (by kernel_rfl) (by simp) ?_
                                        refine AllReadyH.cons rfl (fun K hK => ?_) ?_
                                        · skip
                                          go_simp
                                          have hal := (Below.refl wdT4.heap.size wdT4).alloc (Nat.le_refl _) (.cells #[.int .i64 1, .int .i64 1, .int .i64 2, .int .i64 3, .int .i64 99, .int .i64 0, .int .i64 100] 3)
                                          have hcl := cFz.lt
                                          replace cFz := cFz.all hal
                                          replace BmFz := BmFz.all hal
                                          replace gFz := grown_trans gFz (below_grown (row := some p_) hal)
                                          have Lit3 : Blk _ (wdT4.heap.size) _ _ := Blk.new wdT4 #[.int .i64 1, .int .i64 1, .int .i64 2, .int .i64 3, .int .i64 99, .int .i64 0, .int .i64 100] 3
                                          obtain ⟨q3, hq⟩ : ∃ q, wdT4.heap.size = q := ⟨_, rfl⟩
                                          rw [hq] at Lit3 ⊢
                                          have hqp3 : q3 ≠ p_ := by omega
                                          clear hcl
                                          obtain ⟨wq4001, hw⟩ : ∃ v, wdT4.alloc (.cells #[.int .i64 1, .int .i64 1, .int .i64 2, .int .i64 3, .int .i64 99, .int .i64 0, .int .i64 100] 3) = v := ⟨_, rfl⟩
                                          rw [hw] at cFz BmFz gFz Lit3 ⊢
                                          clear hal hw hq
                                          refine hK.out _ _ (by exact ⟨BmFz.cell 0, BmFz.cell 1, BmFz.cell 2, BmFz.cell 3, BmFz.cell 4⟩) (fun hHeld => ?_)
                                          clear hK K
                                          (try simp only [Act.put, List.getElem_toArray, List.getElem_cons_zero, List.getElem_cons_succ, List.setIfInBounds_toArray, List.set_cons_zero, List.set_cons_succ])
                                          clear hHeld
                                          refine wpAnyH_ready (rs := [5, 11, 19]) (by kernel_rfl) (by simp) ?_
                                          refine AllReadyH.cons rfl (fun K hK => ?_) ?_
                                          · skip
                                            go_simp
                                            refine (pick_any p_ (0 + 100 + 10000) 24 _ cFz (by omega) (by omega) (by omega)).mono ?_
                                            rintro e wq4002 ⟨x5, rfl, xq5, hc, hg⟩
                                            obtain ⟨m5, hm⟩ : ∃ m : Nat, x5 / 11 = (m : Int) := ⟨(x5 / 11).toNat, by omega⟩
                                            have ht5 : Int.tdiv x5 11 = (m5 : Int) := by rw [Int.tdiv_eq_ediv_of_nonneg (by omega), hm]
                                            obtain ⟨n5, hn_⟩ : ∃ z : Nat, 5 + m5 = z := ⟨_, rfl⟩
                                            have hb5 : 5 ≤ n5 ∧ n5 ≤ 7 := by omega
                                            have he5 : IntKind.i64.wrap (5 + (m5 : Int)) = (n5 : Int) := by rw [IntWalk.i64_in _ (by omega)]; omega
                                            have hx5 : 0 ≤ x5 := by omega
                                            have hw5 : IntKind.i64.wrap (m5 : Int) = (m5 : Int) := IntWalk.i64_in _ (by omega)
                                            clear hm hn_ xq5
                                            clear cFz
                                            have cFz := hc
                                            replace BmFz := BmFz.mark hg (fun z hz => by cases hz; omega)
                                            replace gFz := grown_trans gFz hg
                                            replace Lit3 := Lit3.mark hg (fun z hz => by cases hz; omega)
                                            clear hc hg
                                            refine hK.out _ _ (by exact ⟨BmFz.cell 0, BmFz.cell 1, BmFz.cell 2, BmFz.cell 3, BmFz.cell 4⟩) (fun hHeld => ?_)
                                            clear hK K
                                            (try simp only [Act.put, List.getElem_toArray, List.getElem_cons_zero, List.getElem_cons_succ, List.setIfInBounds_toArray, List.set_cons_zero, List.set_cons_succ])
                                            refine wpAnyH_take (i := 6) (v := ?_) rfl (by kernel_rfl) (by kernel_rfl) (by kernel_rfl) (fun _ _ _ h => h) (Or.inl ⟨by rfl, ?_⟩) (by assumption) ?_
                                            rotate_left
                                            · intro w hSw; (try dsimp only at hSw); go_simp; (try with_reducible rfl)
                                            (try simp only [Act.put, List.getElem_toArray, List.getElem_cons_zero, List.getElem_cons_succ, List.setIfInBounds_toArray, List.set_cons_zero, List.set_cons_succ])
                                            refine wpAnyH_take (i := 7) (v := ?_) rfl (by kernel_rfl) (by kernel_rfl) (by kernel_rfl) (fun _ _ _ h => h) (Or.inl ⟨by rfl, ?_⟩) (by assumption) ?_
                                            rotate_left
                                            · intro w hSw; (try dsimp only at hSw); go_simp; (try with_reducible rfl)
                                            (try simp only [Act.put, List.getElem_toArray, List.getElem_cons_zero, List.getElem_cons_succ, List.setIfInBounds_toArray, List.set_cons_zero, List.set_cons_succ])
                                            refine wpAnyH_take (i := 8) (v := .slice (some ⟨q3, 0, none⟩) n5 7) rfl (by kernel_rfl) (by kernel_rfl) (by kernel_rfl) (fun _ _ _ h => h) (Or.inl ⟨by rfl, ?_⟩) (by assumption) ?_
                                            · intro w hSw; (try dsimp only at hSw); go_simp; (try simp only [hw5, he5]); (try simp); (try (intro hx; exfalso; omega))
                                            (try simp only [Act.put, List.getElem_toArray, List.getElem_cons_zero, List.getElem_cons_succ, List.setIfInBounds_toArray, List.set_cons_zero, List.set_cons_succ])
                                            revert hHeld; revert hx5; revert hw5; revert ht5; revert hqp3; revert he5; revert hb5; revert Lit3; revert gFz; revert BmFz; revert cFz; revert x5; revert n5; revert m5; revert q3; revert wq4002
                                            exact keyT47 true
                                          refine AllReadyH.cons rfl (fun K hK => ?_) ?_
                                          · skip
                                            go_simp
                                            have hal := (Below.refl wq4001.heap.size wq4001).alloc (Nat.le_refl _) (.cells #[.int .i64 0, .int .i64 0, .int .i64 10, .int .i64 12, .int .i64 (-1), .int .i64 4001] 3)
                                            have hcl := cFz.lt
                                            replace cFz := cFz.all hal
                                            replace BmFz := BmFz.all hal
                                            replace gFz := grown_trans gFz (below_grown (row := some p_) hal)
                                            replace Lit3 := Lit3.all hal
                                            have Lit11 : Blk _ (wq4001.heap.size) _ _ := Blk.new wq4001 #[.int .i64 0, .int .i64 0, .int .i64 10, .int .i64 12, .int .i64 (-1), .int .i64 4001] 3
                                            obtain ⟨q11, hq⟩ : ∃ q, wq4001.heap.size = q := ⟨_, rfl⟩
                                            rw [hq] at Lit11 ⊢
                                            have hqp11 : q11 ≠ p_ := by omega
                                            clear hcl
                                            obtain ⟨wq4003, hw⟩ : ∃ v, wq4001.alloc (.cells #[.int .i64 0, .int .i64 0, .int .i64 10, .int .i64 12, .int .i64 (-1), .int .i64 4001] 3) = v := ⟨_, rfl⟩
                                            rw [hw] at cFz BmFz gFz Lit3 Lit11 ⊢
                                            clear hal hw hq
                                            refine hK.out _ _ (by exact ⟨BmFz.cell 0, BmFz.cell 1, BmFz.cell 2, BmFz.cell 3, BmFz.cell 4⟩) (fun hHeld => ?_)
                                            clear hK K
                                            (try simp only [Act.put, List.getElem_toArray, List.getElem_cons_zero, List.getElem_cons_succ, List.setIfInBounds_toArray, List.set_cons_zero, List.set_cons_succ])
                                            revert hHeld; revert hqp3; revert hqp11; revert Lit3; revert Lit11; revert gFz; revert BmFz; revert cFz; revert q11; revert q3; revert wq4003
                                            exact keyT42 true
                                          refine AllReadyH.cons rfl (fun K hK => ?_) AllReadyH.nil
                                          go_simp
                                          have hal := (Below.refl wq4001.heap.size wq4001).alloc (Nat.le_refl _) (.cells #[.int .i64 10, .int .i64 20, .int .i64 4000, .int .i64 4000, .int .i64 0, .int .i64 4001] 3)
                                          have hcl := cFz.lt
                                          replace cFz := cFz.all hal
                                          replace BmFz := BmFz.all hal
                                          replace gFz := grown_trans gFz (below_grown (row := some p_) hal)
                                          replace Lit3 := Lit3.all hal
                                          have Lit19 : Blk _ (wq4001.heap.size) _ _ := Blk.new wq4001 #[.int .i64 10, .int .i64 20, .int .i64 4000, .int .i64 4000, .int .i64 0, .int .i64 4001] 3
                                          obtain ⟨q19, hq⟩ : ∃ q, wq4001.heap.size = q := ⟨_, rfl⟩
                                          rw [hq] at Lit19 ⊢
                                          have hqp19 : q19 ≠ p_ := by omega
                                          clear hcl
                                          obtain ⟨wq4004, hw⟩ : ∃ v, wq4001.alloc (.cells #[.int .i64 10, .int .i64 20, .int .i64 4000, .int .i64 4000, .int .i64 0, .int .i64 4001] 3) = v := ⟨_, rfl⟩
                                          rw [hw] at cFz BmFz gFz Lit3 Lit19 ⊢
                                          clear hal hw hq
                                          refine hK.out _ _ (by exact ⟨BmFz.cell 0, BmFz.cell 1, BmFz.cell 2, BmFz.cell 3, BmFz.cell 4⟩) (fun hHeld => ?_)
                                          clear hK K
                                          (try simp only [Act.put, List.getElem_toArray, List.getElem_cons_zero, List.getElem_cons_succ, List.setIfInBounds_toArray, List.set_cons_zero, List.set_cons_succ])
                                          revert hHeld; revert hqp3; revert hqp19; revert Lit3; revert Lit19; revert gFz; revert BmFz; revert cFz; revert q19; revert q3; revert wq4004
                                          exact keyT41 true
                                        refine AllReadyH.cons rfl (fun K hK => ?_) ?_
                                        · skip
                                          go_simp
                                          refine (pick_any p_ (0 + 100 + 10000) 24 _ cFz (by omega) (by omega) (by omega)).mono ?_
                                          rintro e wq4005 ⟨x5, rfl, xq5, hc, hg⟩
                                          obtain ⟨m5, hm⟩ : ∃ m : Nat, x5 / 11 = (m : Int) := ⟨(x5 / 11).toNat, by omega⟩
                                          have ht5 : Int.tdiv x5 11 = (m5 : Int) := by rw [Int.tdiv_eq_ediv_of_nonneg (by omega), hm]
                                          obtain ⟨n5, hn_⟩ : ∃ z : Nat, 5 + m5 = z := ⟨_, rfl⟩
                                          have hb5 : 5 ≤ n5 ∧ n5 ≤ 7 := by omega
                                          have he5 : IntKind.i64.wrap (5 + (m5 : Int)) = (n5 : Int) := by rw [IntWalk.i64_in _ (by omega)]; omega
                                          have hx5 : 0 ≤ x5 := by omega
                                          have hw5 : IntKind.i64.wrap (m5 : Int) = (m5 : Int) := IntWalk.i64_in _ (by omega)
                                          clear hm hn_ xq5
                                          clear cFz
                                          have cFz := hc
                                          replace BmFz := BmFz.mark hg (fun z hz => by cases hz; omega)
                                          replace gFz := grown_trans gFz hg
                                          clear hc hg
                                          refine hK.out _ _ (by exact ⟨BmFz.cell 0, BmFz.cell 1, BmFz.cell 2, BmFz.cell 3, BmFz.cell 4⟩) (fun hHeld => ?_)
                                          clear hK K
                                          (try simp only [Act.put, List.getElem_toArray, List.getElem_cons_zero, List.getElem_cons_succ, List.setIfInBounds_toArray, List.set_cons_zero, List.set_cons_succ])
                                          refine wpAnyH_take (i := 6) (v := ?_) rfl (by kernel_rfl) (by kernel_rfl) (by kernel_rfl) (fun _ _ _ h => h) (Or.inl ⟨by rfl, ?_⟩) (by assumption) ?_
                                          rotate_left
                                          · intro w hSw; (try dsimp only at hSw); go_simp; (try with_reducible rfl)
                                          (try simp only [Act.put, List.getElem_toArray, List.getElem_cons_zero, List.getElem_cons_succ, List.setIfInBounds_toArray, List.set_cons_zero, List.set_cons_succ])
                                          refine wpAnyH_take (i := 7) (v := ?_) rfl (by kernel_rfl) (by kernel_rfl) (by kernel_rfl) (fun _ _ _ h => h) (Or.inl ⟨by rfl, ?_⟩) (by assumption) ?_
                                          rotate_left
                                          · intro w hSw; (try dsimp only at hSw); go_simp; (try with_reducible rfl)
                                          (try simp only [Act.put, List.getElem_toArray, List.getElem_cons_zero, List.getElem_cons_succ, List.setIfInBounds_toArray, List.set_cons_zero, List.set_cons_succ])
                                          clear hHeld
                                          refine wpAnyH_ready (rs := [3, 11, 19]) (by kernel_rfl) (by simp) ?_
                                          refine AllReadyH.cons rfl (fun K hK => ?_) ?_
                                          · skip
                                            go_simp
                                            have hal := (Below.refl wq4005.heap.size wq4005).alloc (Nat.le_refl _) (.cells #[.int .i64 1, .int .i64 1, .int .i64 2, .int .i64 3, .int .i64 99, .int .i64 0, .int .i64 100] 3)
                                            have hcl := cFz.lt
                                            replace cFz := cFz.all hal
                                            replace BmFz := BmFz.all hal
                                            replace gFz := grown_trans gFz (below_grown (row := some p_) hal)
                                            have Lit3 : Blk _ (wq4005.heap.size) _ _ := Blk.new wq4005 #[.int .i64 1, .int .i64 1, .int .i64 2, .int .i64 3, .int .i64 99, .int .i64 0, .int .i64 100] 3
                                            obtain ⟨q3, hq⟩ : ∃ q, wq4005.heap.size = q := ⟨_, rfl⟩
                                            rw [hq] at Lit3 ⊢
                                            have hqp3 : q3 ≠ p_ := by omega
                                            clear hcl
                                            obtain ⟨wq4006, hw⟩ : ∃ v, wq4005.alloc (.cells #[.int .i64 1, .int .i64 1, .int .i64 2, .int .i64 3, .int .i64 99, .int .i64 0, .int .i64 100] 3) = v := ⟨_, rfl⟩
                                            rw [hw] at cFz BmFz gFz Lit3 ⊢
                                            clear hal hw hq
                                            refine hK.out _ _ (by exact ⟨BmFz.cell 0, BmFz.cell 1, BmFz.cell 2, BmFz.cell 3, BmFz.cell 4⟩) (fun hHeld => ?_)
                                            clear hK K
                                            (try simp only [Act.put, List.getElem_toArray, List.getElem_cons_zero, List.getElem_cons_succ, List.setIfInBounds_toArray, List.set_cons_zero, List.set_cons_succ])
                                            refine wpAnyH_take (i := 8) (v := .slice (some ⟨q3, 0, none⟩) n5 7) rfl (by kernel_rfl) (by kernel_rfl) (by kernel_rfl) (fun _ _ _ h => h) (Or.inl ⟨by rfl, ?_⟩) (by assumption) ?_
                                            · intro w hSw; (try dsimp only at hSw); go_simp; (try simp only [hw5, he5]); (try simp); (try (intro hx; exfalso; omega))
                                            (try simp only [Act.put, List.getElem_toArray, List.getElem_cons_zero, List.getElem_cons_succ, List.setIfInBounds_toArray, List.set_cons_zero, List.set_cons_succ])
                                            revert hHeld; revert hx5; revert hw5; revert ht5; revert hqp3; revert he5; revert hb5; revert Lit3; revert gFz; revert BmFz; revert cFz; revert x5; revert n5; revert m5; revert q3; revert wq4006
                                            exact keyT47 true
                                          refine AllReadyH.cons rfl (fun K hK => ?_) ?_
                                          · skip
                                            go_simp
                                            have hal := (Below.refl wq4005.heap.size wq4005).alloc (Nat.le_refl _) (.cells #[.int .i64 0, .int .i64 0, .int .i64 10, .int .i64 12, .int .i64 (-1), .int .i64 4001] 3)
                                            have hcl := cFz.lt
                                            replace cFz := cFz.all hal
                                            replace BmFz := BmFz.all hal
                                            replace gFz := grown_trans gFz (below_grown (row := some p_) hal)
                                            have Lit11 : Blk _ (wq4005.heap.size) _ _ := Blk.new wq4005 #[.int .i64 0, .int .i64 0, .int .i64 10, .int .i64 12, .int .i64 (-1), .int .i64 4001] 3
                                            obtain ⟨q11, hq⟩ : ∃ q, wq4005.heap.size = q := ⟨_, rfl⟩
                                            rw [hq] at Lit11 ⊢
                                            have hqp11 : q11 ≠ p_ := by omega
                                            clear hcl
                                            obtain ⟨wq4007, hw⟩ : ∃ v, wq4005.alloc (.cells #[.int .i64 0, .int .i64 0, .int .i64 10, .int .i64 12, .int .i64 (-1), .int .i64 4001] 3) = v := ⟨_, rfl⟩
                                            rw [hw] at cFz BmFz gFz Lit11 ⊢
                                            clear hal hw hq
                                            refine hK.out _ _ (by exact ⟨BmFz.cell 0, BmFz.cell 1, BmFz.cell 2, BmFz.cell 3, BmFz.cell 4⟩) (fun hHeld => ?_)
                                            clear hK K
                                            (try simp only [Act.put, List.getElem_toArray, List.getElem_cons_zero, List.getElem_cons_succ, List.setIfInBounds_toArray, List.set_cons_zero, List.set_cons_succ])
                                            revert hHeld; revert hx5; revert hw5; revert ht5; revert hqp11; revert he5; revert hb5; revert Lit11; revert gFz; revert BmFz; revert cFz; revert x5; revert n5; revert m5; revert q11; revert wq4007
                                            exact keyT44 true
                                          refine AllReadyH.cons rfl (fun K hK => ?_) AllReadyH.nil
                                          go_simp
                                          have hal := (Below.refl wq4005.heap.size wq4005).alloc (Nat.le_refl _) (.cells #[.int .i64 10, .int .i64 20, .int .i64 4000, .int .i64 4000, .int .i64 0, .int .i64 4001] 3)
                                          have hcl := cFz.lt
                                          replace cFz := cFz.all hal
                                          replace BmFz := BmFz.all hal
                                          replace gFz := grown_trans gFz (below_grown (row := some p_) hal)
                                          have Lit19 : Blk _ (wq4005.heap.size) _ _ := Blk.new wq4005 #[.int .i64 10, .int .i64 20, .int .i64 4000, .int .i64 4000, .int .i64 0, .int .i64 4001] 3
                                          obtain ⟨q19, hq⟩ : ∃ q, wq4005.heap.size = q := ⟨_, rfl⟩
                                          rw [hq] at Lit19 ⊢
                                          have hqp19 : q19 ≠ p_ := by omega
                                          clear hcl
                                          obtain ⟨wq4008, hw⟩ : ∃ v, wq4005.alloc (.cells #[.int .i64 10, .int .i64 20, .int .i64 4000, .int .i64 4000, .int .i64 0, .int .i64 4001] 3) = v := ⟨_, rfl⟩
                                          rw [hw] at cFz BmFz gFz Lit19 ⊢
                                          clear hal hw hq
                                          refine hK.out _ _ (by exact ⟨BmFz.cell 0, BmFz.cell 1, BmFz.cell 2, BmFz.cell 3, BmFz.cell 4⟩) (fun hHeld => ?_)
                                          clear hK K
                                          (try simp only [Act.put, List.getElem_toArray, List.getElem_cons_zero, List.getElem_cons_succ, List.setIfInBounds_toArray, List.set_cons_zero, List.set_cons_succ])
                                          revert hHeld; revert hx5; revert hw5; revert ht5; revert hqp19; revert he5; revert hb5; revert Lit19; revert gFz; revert BmFz; revert cFz; revert x5; revert n5; revert m5; revert q19; revert wq4008
                                          exact keyT45 true
                                        refine AllReadyH.cons rfl (fun K hK => ?_) ?_
                                        · skip
                                          go_simp
                                          have hal := (Below.refl wdT4.heap.size wdT4).alloc (Nat.le_refl _) (.cells #[.int .i64 0, .int .i64 0, .int .i64 10, .int .i64 12, .int .i64 (-1), .int .i64 4001] 3)
                                          have hcl := cFz.lt
                                          replace cFz := cFz.all hal
                                          replace BmFz := BmFz.all hal
                                          replace gFz := grown_trans gFz (below_grown (row := some p_) hal)
                                          have Lit11 : Blk _ (wdT4.heap.size) _ _ := Blk.new wdT4 #[.int .i64 0, .int .i64 0, .int .i64 10, .int .i64 12, .int .i64 (-1), .int .i64 4001] 3
                                          obtain ⟨q11, hq⟩ : ∃ q, wdT4.heap.size = q := ⟨_, rfl⟩
                                          rw [hq] at Lit11 ⊢
                                          have hqp11 : q11 ≠ p_ := by omega
                                          clear hcl
                                          obtain ⟨wq4009, hw⟩ : ∃ v, wdT4.alloc (.cells #[.int .i64 0, .int .i64 0, .int .i64 10, .int .i64 12, .int .i64 (-1), .int .i64 4001] 3) = v := ⟨_, rfl⟩
                                          rw [hw] at cFz BmFz gFz Lit11 ⊢
                                          clear hal hw hq
                                          refine hK.out _ _ (by exact ⟨BmFz.cell 0, BmFz.cell 1, BmFz.cell 2, BmFz.cell 3, BmFz.cell 4⟩) (fun hHeld => ?_)
                                          clear hK K
                                          (try simp only [Act.put, List.getElem_toArray, List.getElem_cons_zero, List.getElem_cons_succ, List.setIfInBounds_toArray, List.set_cons_zero, List.set_cons_succ])
                                          clear hHeld
                                          refine wpAnyH_ready (rs := [3, 5, 19]) (by kernel_rfl) (by simp) ?_
                                          refine AllReadyH.cons rfl (fun K hK => ?_) ?_
                                          · skip
                                            go_simp
                                            have hal := (Below.refl wq4009.heap.size wq4009).alloc (Nat.le_refl _) (.cells #[.int .i64 1, .int .i64 1, .int .i64 2, .int .i64 3, .int .i64 99, .int .i64 0, .int .i64 100] 3)
                                            have hcl := cFz.lt
                                            replace cFz := cFz.all hal
                                            replace BmFz := BmFz.all hal
                                            replace gFz := grown_trans gFz (below_grown (row := some p_) hal)
                                            replace Lit11 := Lit11.all hal
                                            have Lit3 : Blk _ (wq4009.heap.size) _ _ := Blk.new wq4009 #[.int .i64 1, .int .i64 1, .int .i64 2, .int .i64 3, .int .i64 99, .int .i64 0, .int .i64 100] 3
                                            obtain ⟨q3, hq⟩ : ∃ q, wq4009.heap.size = q := ⟨_, rfl⟩
                                            rw [hq] at Lit3 ⊢
                                            have hqp3 : q3 ≠ p_ := by omega
                                            clear hcl
                                            obtain ⟨wq4010, hw⟩ : ∃ v, wq4009.alloc (.cells #[.int .i64 1, .int .i64 1, .int .i64 2, .int .i64 3, .int .i64 99, .int .i64 0, .int .i64 100] 3) = v := ⟨_, rfl⟩
                                            rw [hw] at cFz BmFz gFz Lit11 Lit3 ⊢
                                            clear hal hw hq
                                            refine hK.out _ _ (by exact ⟨BmFz.cell 0, BmFz.cell 1, BmFz.cell 2, BmFz.cell 3, BmFz.cell 4⟩) (fun hHeld => ?_)
                                            clear hK K
                                            (try simp only [Act.put, List.getElem_toArray, List.getElem_cons_zero, List.getElem_cons_succ, List.setIfInBounds_toArray, List.set_cons_zero, List.set_cons_succ])
                                            revert hHeld; revert hqp3; revert hqp11; revert Lit3; revert Lit11; revert gFz; revert BmFz; revert cFz; revert q11; revert q3; revert wq4010
                                            exact keyT42 true
                                          refine AllReadyH.cons rfl (fun K hK => ?_) ?_
                                          · skip
                                            go_simp
                                            refine (pick_any p_ (0 + 100 + 10000) 24 _ cFz (by omega) (by omega) (by omega)).mono ?_
                                            rintro e wq4011 ⟨x5, rfl, xq5, hc, hg⟩
                                            obtain ⟨m5, hm⟩ : ∃ m : Nat, x5 / 11 = (m : Int) := ⟨(x5 / 11).toNat, by omega⟩
                                            have ht5 : Int.tdiv x5 11 = (m5 : Int) := by rw [Int.tdiv_eq_ediv_of_nonneg (by omega), hm]
                                            obtain ⟨n5, hn_⟩ : ∃ z : Nat, 5 + m5 = z := ⟨_, rfl⟩
                                            have hb5 : 5 ≤ n5 ∧ n5 ≤ 7 := by omega
                                            have he5 : IntKind.i64.wrap (5 + (m5 : Int)) = (n5 : Int) := by rw [IntWalk.i64_in _ (by omega)]; omega
                                            have hx5 : 0 ≤ x5 := by omega
                                            have hw5 : IntKind.i64.wrap (m5 : Int) = (m5 : Int) := IntWalk.i64_in _ (by omega)
                                            clear hm hn_ xq5
                                            clear cFz
                                            have cFz := hc
                                            replace BmFz := BmFz.mark hg (fun z hz => by cases hz; omega)
                                            replace gFz := grown_trans gFz hg
                                            replace Lit11 := Lit11.mark hg (fun z hz => by cases hz; omega)
                                            clear hc hg
                                            refine hK.out _ _ (by exact ⟨BmFz.cell 0, BmFz.cell 1, BmFz.cell 2, BmFz.cell 3, BmFz.cell 4⟩) (fun hHeld => ?_)
                                            clear hK K
                                            (try simp only [Act.put, List.getElem_toArray, List.getElem_cons_zero, List.getElem_cons_succ, List.setIfInBounds_toArray, List.set_cons_zero, List.set_cons_succ])
                                            refine wpAnyH_take (i := 6) (v := ?_) rfl (by kernel_rfl) (by kernel_rfl) (by kernel_rfl) (fun _ _ _ h => h) (Or.inl ⟨by rfl, ?_⟩) (by assumption) ?_
                                            rotate_left
                                            · intro w hSw; (try dsimp only at hSw); go_simp; (try with_reducible rfl)
                                            (try simp only [Act.put, List.getElem_toArray, List.getElem_cons_zero, List.getElem_cons_succ, List.setIfInBounds_toArray, List.set_cons_zero, List.set_cons_succ])
                                            refine wpAnyH_take (i := 7) (v := ?_) rfl (by kernel_rfl) (by kernel_rfl) (by kernel_rfl) (fun _ _ _ h => h) (Or.inl ⟨by rfl, ?_⟩) (by assumption) ?_
                                            rotate_left
                                            · intro w hSw; (try dsimp only at hSw); go_simp; (try with_reducible rfl)
                                            (try simp only [Act.put, List.getElem_toArray, List.getElem_cons_zero, List.getElem_cons_succ, List.setIfInBounds_toArray, List.set_cons_zero, List.set_cons_succ])
                                            revert hHeld; revert hx5; revert hw5; revert ht5; revert hqp11; revert he5; revert hb5; revert Lit11; revert gFz; revert BmFz; revert cFz; revert x5; revert n5; revert m5; revert q11; revert wq4011
                                            exact keyT44 true
                                          refine AllReadyH.cons rfl (fun K hK => ?_) AllReadyH.nil
                                          go_simp
                                          have hal := (Below.refl wq4009.heap.size wq4009).alloc (Nat.le_refl _) (.cells #[.int .i64 10, .int .i64 20, .int .i64 4000, .int .i64 4000, .int .i64 0, .int .i64 4001] 3)
                                          have hcl := cFz.lt
                                          replace cFz := cFz.all hal
                                          replace BmFz := BmFz.all hal
                                          replace gFz := grown_trans gFz (below_grown (row := some p_) hal)
                                          replace Lit11 := Lit11.all hal
                                          have Lit19 : Blk _ (wq4009.heap.size) _ _ := Blk.new wq4009 #[.int .i64 10, .int .i64 20, .int .i64 4000, .int .i64 4000, .int .i64 0, .int .i64 4001] 3
                                          obtain ⟨q19, hq⟩ : ∃ q, wq4009.heap.size = q := ⟨_, rfl⟩
                                          rw [hq] at Lit19 ⊢
                                          have hqp19 : q19 ≠ p_ := by omega
                                          clear hcl
                                          obtain ⟨wq4012, hw⟩ : ∃ v, wq4009.alloc (.cells #[.int .i64 10, .int .i64 20, .int .i64 4000, .int .i64 4000, .int .i64 0, .int .i64 4001] 3) = v := ⟨_, rfl⟩
                                          rw [hw] at cFz BmFz gFz Lit11 Lit19 ⊢
                                          clear hal hw hq
                                          refine hK.out _ _ (by exact ⟨BmFz.cell 0, BmFz.cell 1, BmFz.cell 2, BmFz.cell 3, BmFz.cell 4⟩) (fun hHeld => ?_)
                                          clear hK K
                                          (try simp only [Act.put, List.getElem_toArray, List.getElem_cons_zero, List.getElem_cons_succ, List.setIfInBounds_toArray, List.set_cons_zero, List.set_cons_succ])
                                          revert hHeld; revert hqp19; revert hqp11; revert Lit19; revert Lit11; revert gFz; revert BmFz; revert cFz; revert q19; revert q11; revert wq4012
                                          exact keyT40 true
                                        refine AllReadyH.cons rfl (fun K hK => ?_) AllReadyH.nil
                                        go_simp
                                        have hal := (Below.refl wdT4.heap.size wdT4).alloc (Nat.le_refl _) (.cells #[.int .i64 10, .int .i64 20, .int .i64 4000, .int .i64 4000, .int .i64 0, .int .i64 4001] 3)
                                        have hcl := cFz.lt
                                        replace cFz := cFz.all hal
                                        replace BmFz := BmFz.all hal
                                        replace gFz := grown_trans gFz (below_grown (row := some p_) hal)
                                        have Lit19 : Blk _ (wdT4.heap.size) _ _ := Blk.new wdT4 #[.int .i64 10, .int .i64 20, .int .i64 4000, .int .i64 4000, .int .i64 0, .int .i64 4001] 3
                                        obtain ⟨q19, hq⟩ : ∃ q, wdT4.heap.size = q := ⟨_, rfl⟩
                                        rw [hq] at Lit19 ⊢
                                        have hqp19 : q19 ≠ p_ := by omega
                                        clear hcl
                                        obtain ⟨wq4013, hw⟩ : ∃ v, wdT4.alloc (.cells #[.int .i64 10, .int .i64 20, .int .i64 4000, .int .i64 4000, .int .i64 0, .int .i64 4001] 3) = v := ⟨_, rfl⟩
                                        rw [hw] at cFz BmFz gFz Lit19 ⊢
                                        clear hal hw hq
                                        refine hK.out _ _ (by exact ⟨BmFz.cell 0, BmFz.cell 1, BmFz.cell 2, BmFz.cell 3, BmFz.cell 4⟩) (fun hHeld => ?_)
                                        clear hK K
                                        (try simp only [Act.put, List.getElem_toArray, List.getElem_cons_zero, List.getElem_cons_succ, List.setIfInBounds_toArray, List.set_cons_zero, List.set_cons_succ])
                                        clear hHeld
                                        refine wpAnyH_ready (rs := [3, 5, 11]) (by kernel_rfl) (by simp) ?_
                                        refine AllReadyH.cons rfl (fun K hK => ?_) ?_
                                        · skip
                                          go_simp
                                          have hal := (Below.refl wq4013.heap.size wq4013).alloc (Nat.le_refl _) (.cells #[.int .i64 1, .int .i64 1, .int .i64 2, .int .i64 3, .int .i64 99, .int .i64 0, .int .i64 100] 3)
                                          have hcl := cFz.lt
                                          replace cFz := cFz.all hal
                                          replace BmFz := BmFz.all hal
                                          replace gFz := grown_trans gFz (below_grown (row := some p_) hal)
                                          replace Lit19 := Lit19.all hal
                                          have Lit3 : Blk _ (wq4013.heap.size) _ _ := Blk.new wq4013 #[.int .i64 1, .int .i64 1, .int .i64 2, .int .i64 3, .int .i64 99, .int .i64 0, .int .i64 100] 3
                                          obtain ⟨q3, hq⟩ : ∃ q, wq4013.heap.size = q := ⟨_, rfl⟩
                                          rw [hq] at Lit3 ⊢
                                          have hqp3 : q3 ≠ p_ := by omega
                                          clear hcl
                                          obtain ⟨wq4014, hw⟩ : ∃ v, wq4013.alloc (.cells #[.int .i64 1, .int .i64 1, .int .i64 2, .int .i64 3, .int .i64 99, .int .i64 0, .int .i64 100] 3) = v := ⟨_, rfl⟩
                                          rw [hw] at cFz BmFz gFz Lit19 Lit3 ⊢
                                          clear hal hw hq
                                          refine hK.out _ _ (by exact ⟨BmFz.cell 0, BmFz.cell 1, BmFz.cell 2, BmFz.cell 3, BmFz.cell 4⟩) (fun hHeld => ?_)
                                          clear hK K
                                          (try simp only [Act.put, List.getElem_toArray, List.getElem_cons_zero, List.getElem_cons_succ, List.setIfInBounds_toArray, List.set_cons_zero, List.set_cons_succ])
                                          revert hHeld; revert hqp3; revert hqp19; revert Lit3; revert Lit19; revert gFz; revert BmFz; revert cFz; revert q19; revert q3; revert wq4014
                                          exact keyT41 true
                                        refine AllReadyH.cons rfl (fun K hK => ?_) ?_
                                        · skip
                                          go_simp
                                          refine (pick_any p_ (0 + 100 + 10000) 24 _ cFz (by omega) (by omega) (by omega)).mono ?_
                                          rintro e wq4015 ⟨x5, rfl, xq5, hc, hg⟩
                                          obtain ⟨m5, hm⟩ : ∃ m : Nat, x5 / 11 = (m : Int) := ⟨(x5 / 11).toNat, by omega⟩
                                          have ht5 : Int.tdiv x5 11 = (m5 : Int) := by rw [Int.tdiv_eq_ediv_of_nonneg (by omega), hm]
                                          obtain ⟨n5, hn_⟩ : ∃ z : Nat, 5 + m5 = z := ⟨_, rfl⟩
                                          have hb5 : 5 ≤ n5 ∧ n5 ≤ 7 := by omega
                                          have he5 : IntKind.i64.wrap (5 + (m5 : Int)) = (n5 : Int) := by rw [IntWalk.i64_in _ (by omega)]; omega
                                          have hx5 : 0 ≤ x5 := by omega
                                          have hw5 : IntKind.i64.wrap (m5 : Int) = (m5 : Int) := IntWalk.i64_in _ (by omega)
                                          clear hm hn_ xq5
                                          clear cFz
                                          have cFz := hc
                                          replace BmFz := BmFz.mark hg (fun z hz => by cases hz; omega)
                                          replace gFz := grown_trans gFz hg
                                          replace Lit19 := Lit19.mark hg (fun z hz => by cases hz; omega)
                                          clear hc hg
                                          refine hK.out _ _ (by exact ⟨BmFz.cell 0, BmFz.cell 1, BmFz.cell 2, BmFz.cell 3, BmFz.cell 4⟩) (fun hHeld => ?_)
                                          clear hK K
                                          (try simp only [Act.put, List.getElem_toArray, List.getElem_cons_zero, List.getElem_cons_succ, List.setIfInBounds_toArray, List.set_cons_zero, List.set_cons_succ])
                                          refine wpAnyH_take (i := 6) (v := ?_) rfl (by kernel_rfl) (by kernel_rfl) (by kernel_rfl) (fun _ _ _ h => h) (Or.inl ⟨by rfl, ?_⟩) (by assumption) ?_
                                          rotate_left
                                          · intro w hSw; (try dsimp only at hSw); go_simp; (try with_reducible rfl)
                                          (try simp only [Act.put, List.getElem_toArray, List.getElem_cons_zero, List.getElem_cons_succ, List.setIfInBounds_toArray, List.set_cons_zero, List.set_cons_succ])
                                          refine wpAnyH_take (i := 7) (v := ?_) rfl (by kernel_rfl) (by kernel_rfl) (by kernel_rfl) (fun _ _ _ h => h) (Or.inl ⟨by rfl, ?_⟩) (by assumption) ?_
                                          rotate_left
                                          · intro w hSw; (try dsimp only at hSw); go_simp; (try with_reducible rfl)
                                          (try simp only [Act.put, List.getElem_toArray, List.getElem_cons_zero, List.getElem_cons_succ, List.setIfInBounds_toArray, List.set_cons_zero, List.set_cons_succ])
                                          revert hHeld; revert hx5; revert hw5; revert ht5; revert hqp19; revert he5; revert hb5; revert Lit19; revert gFz; revert BmFz; revert cFz; revert x5; revert n5; revert m5; revert q19; revert wq4015
                                          exact keyT45 true
                                        refine AllReadyH.cons rfl (fun K hK => ?_) AllReadyH.nil
                                        go_simp
                                        have hal := (Below.refl wq4013.heap.size wq4013).alloc (Nat.le_refl _) (.cells #[.int .i64 0, .int .i64 0, .int .i64 10, .int .i64 12, .int .i64 (-1), .int .i64 4001] 3)
                                        have hcl := cFz.lt
                                        replace cFz := cFz.all hal
                                        replace BmFz := BmFz.all hal
                                        replace gFz := grown_trans gFz (below_grown (row := some p_) hal)
                                        replace Lit19 := Lit19.all hal
                                        have Lit11 : Blk _ (wq4013.heap.size) _ _ := Blk.new wq4013 #[.int .i64 0, .int .i64 0, .int .i64 10, .int .i64 12, .int .i64 (-1), .int .i64 4001] 3
                                        obtain ⟨q11, hq⟩ : ∃ q, wq4013.heap.size = q := ⟨_, rfl⟩
                                        rw [hq] at Lit11 ⊢
                                        have hqp11 : q11 ≠ p_ := by omega
                                        clear hcl
                                        obtain ⟨wq4016, hw⟩ : ∃ v, wq4013.alloc (.cells #[.int .i64 0, .int .i64 0, .int .i64 10, .int .i64 12, .int .i64 (-1), .int .i64 4001] 3) = v := ⟨_, rfl⟩
                                        rw [hw] at cFz BmFz gFz Lit19 Lit11 ⊢
                                        clear hal hw hq
                                        refine hK.out _ _ (by exact ⟨BmFz.cell 0, BmFz.cell 1, BmFz.cell 2, BmFz.cell 3, BmFz.cell 4⟩) (fun hHeld => ?_)
                                        clear hK K
                                        (try simp only [Act.put, List.getElem_toArray, List.getElem_cons_zero, List.getElem_cons_succ, List.setIfInBounds_toArray, List.set_cons_zero, List.set_cons_succ])
                                        revert hHeld; revert hqp19; revert hqp11; revert Lit19; revert Lit11; revert gFz; revert BmFz; revert cFz; revert q19; revert q11; revert wq4016
                                        exact keyT40 true
                                      case keyT40 =>
                                        intro _ wq4012 q11 q19 cFz BmFz gFz Lit11 Lit19 hqp11 hqp19 hHeld
                                        clear hHeld
                                        refine wpAnyH_ready (rs := [3, 5]) (by kernel_rfl) (by simp) ?_
                                        refine AllReadyH.cons rfl (fun K hK => ?_) ?_
                                        · skip
                                          go_simp
                                          have hal := (Below.refl wq4012.heap.size wq4012).alloc (Nat.le_refl _) (.cells #[.int .i64 1, .int .i64 1, .int .i64 2, .int .i64 3, .int .i64 99, .int .i64 0, .int .i64 100] 3)
                                          have hcl := cFz.lt
                                          replace cFz := cFz.all hal
                                          replace BmFz := BmFz.all hal
                                          replace gFz := grown_trans gFz (below_grown (row := some p_) hal)
                                          replace Lit11 := Lit11.all hal
                                          replace Lit19 := Lit19.all hal
                                          have Lit3 : Blk _ (wq4012.heap.size) _ _ := Blk.new wq4012 #[.int .i64 1, .int .i64 1, .int .i64 2, .int .i64 3, .int .i64 99, .int .i64 0, .int .i64 100] 3
                                          obtain ⟨q3, hq⟩ : ∃ q, wq4012.heap.size = q := ⟨_, rfl⟩
                                          rw [hq] at Lit3 ⊢
                                          have hqp3 : q3 ≠ p_ := by omega
                                          clear hcl
                                          obtain ⟨wq4017, hw⟩ : ∃ v, wq4012.alloc (.cells #[.int .i64 1, .int .i64 1, .int .i64 2, .int .i64 3, .int .i64 99, .int .i64 0, .int .i64 100] 3) = v := ⟨_, rfl⟩
                                          rw [hw] at cFz BmFz gFz Lit11 Lit19 Lit3 ⊢
                                          clear hal hw hq
                                          refine hK.out _ _ (by exact ⟨BmFz.cell 0, BmFz.cell 1, BmFz.cell 2, BmFz.cell 3, BmFz.cell 4⟩) (fun hHeld => ?_)
                                          clear hK K
                                          (try simp only [Act.put, List.getElem_toArray, List.getElem_cons_zero, List.getElem_cons_succ, List.setIfInBounds_toArray, List.set_cons_zero, List.set_cons_succ])
                                          revert hHeld; revert hqp3; revert hqp19; revert hqp11; revert Lit3; revert Lit19; revert Lit11; revert gFz; revert BmFz; revert cFz; revert q19; revert q11; revert q3; revert wq4017
                                          exact keyT43 true
                                        refine AllReadyH.cons rfl (fun K hK => ?_) AllReadyH.nil
                                        go_simp
                                        refine (pick_any p_ (0 + 100 + 10000) 24 _ cFz (by omega) (by omega) (by omega)).mono ?_
                                        rintro e wq4018 ⟨x5, rfl, xq5, hc, hg⟩
                                        obtain ⟨m5, hm⟩ : ∃ m : Nat, x5 / 11 = (m : Int) := ⟨(x5 / 11).toNat, by omega⟩
                                        have ht5 : Int.tdiv x5 11 = (m5 : Int) := by rw [Int.tdiv_eq_ediv_of_nonneg (by omega), hm]
                                        obtain ⟨n5, hn_⟩ : ∃ z : Nat, 5 + m5 = z := ⟨_, rfl⟩
                                        have hb5 : 5 ≤ n5 ∧ n5 ≤ 7 := by omega
                                        have he5 : IntKind.i64.wrap (5 + (m5 : Int)) = (n5 : Int) := by rw [IntWalk.i64_in _ (by omega)]; omega
                                        have hx5 : 0 ≤ x5 := by omega
                                        have hw5 : IntKind.i64.wrap (m5 : Int) = (m5 : Int) := IntWalk.i64_in _ (by omega)
                                        clear hm hn_ xq5
                                        clear cFz
                                        have cFz := hc
                                        replace BmFz := BmFz.mark hg (fun z hz => by cases hz; omega)
                                        replace gFz := grown_trans gFz hg
                                        replace Lit11 := Lit11.mark hg (fun z hz => by cases hz; omega)
                                        replace Lit19 := Lit19.mark hg (fun z hz => by cases hz; omega)
                                        clear hc hg
                                        refine hK.out _ _ (by exact ⟨BmFz.cell 0, BmFz.cell 1, BmFz.cell 2, BmFz.cell 3, BmFz.cell 4⟩) (fun hHeld => ?_)
                                        clear hK K
                                        (try simp only [Act.put, List.getElem_toArray, List.getElem_cons_zero, List.getElem_cons_succ, List.setIfInBounds_toArray, List.set_cons_zero, List.set_cons_succ])
                                        refine wpAnyH_take (i := 6) (v := ?_) rfl (by kernel_rfl) (by kernel_rfl) (by kernel_rfl) (fun _ _ _ h => h) (Or.inl ⟨by rfl, ?_⟩) (by assumption) ?_
                                        rotate_left
                                        · intro w hSw; (try dsimp only at hSw); go_simp; (try with_reducible rfl)
                                        (try simp only [Act.put, List.getElem_toArray, List.getElem_cons_zero, List.getElem_cons_succ, List.setIfInBounds_toArray, List.set_cons_zero, List.set_cons_succ])
                                        refine wpAnyH_take (i := 7) (v := ?_) rfl (by kernel_rfl) (by kernel_rfl) (by kernel_rfl) (fun _ _ _ h => h) (Or.inl ⟨by rfl, ?_⟩) (by assumption) ?_
                                        rotate_left
                                        · intro w hSw; (try dsimp only at hSw); go_simp; (try with_reducible rfl)
                                        (try simp only [Act.put, List.getElem_toArray, List.getElem_cons_zero, List.getElem_cons_succ, List.setIfInBounds_toArray, List.set_cons_zero, List.set_cons_succ])
                                        revert hHeld; revert hx5; revert hw5; revert ht5; revert hqp19; revert hqp11; revert he5; revert hb5; revert Lit19; revert Lit11; revert gFz; revert BmFz; revert cFz; revert x5; revert n5; revert m5; revert q19; revert q11; revert wq4018
                                        exact keyT46 true
                                    case keyT41 =>
                                      intro _ wq4004 q3 q19 cFz BmFz gFz Lit19 Lit3 hqp19 hqp3 hHeld
                                      clear hHeld
                                      refine wpAnyH_ready (rs := [5, 11]) (by kernel_rfl) (by simp) ?_
                                      refine AllReadyH.cons rfl (fun K hK => ?_) ?_
                                      · skip
                                        go_simp
                                        refine (pick_any p_ (0 + 100 + 10000) 24 _ cFz (by omega) (by omega) (by omega)).mono ?_
                                        rintro e wq4019 ⟨x5, rfl, xq5, hc, hg⟩
                                        obtain ⟨m5, hm⟩ : ∃ m : Nat, x5 / 11 = (m : Int) := ⟨(x5 / 11).toNat, by omega⟩
                                        have ht5 : Int.tdiv x5 11 = (m5 : Int) := by rw [Int.tdiv_eq_ediv_of_nonneg (by omega), hm]
                                        obtain ⟨n5, hn_⟩ : ∃ z : Nat, 5 + m5 = z := ⟨_, rfl⟩
                                        have hb5 : 5 ≤ n5 ∧ n5 ≤ 7 := by omega
                                        have he5 : IntKind.i64.wrap (5 + (m5 : Int)) = (n5 : Int) := by rw [IntWalk.i64_in _ (by omega)]; omega
                                        have hx5 : 0 ≤ x5 := by omega
                                        have hw5 : IntKind.i64.wrap (m5 : Int) = (m5 : Int) := IntWalk.i64_in _ (by omega)
                                        clear hm hn_ xq5
                                        clear cFz
                                        have cFz := hc
                                        replace BmFz := BmFz.mark hg (fun z hz => by cases hz; omega)
                                        replace gFz := grown_trans gFz hg
                                        replace Lit19 := Lit19.mark hg (fun z hz => by cases hz; omega)
                                        replace Lit3 := Lit3.mark hg (fun z hz => by cases hz; omega)
                                        clear hc hg
                                        refine hK.out _ _ (by exact ⟨BmFz.cell 0, BmFz.cell 1, BmFz.cell 2, BmFz.cell 3, BmFz.cell 4⟩) (fun hHeld => ?_)
                                        clear hK K
                                        (try simp only [Act.put, List.getElem_toArray, List.getElem_cons_zero, List.getElem_cons_succ, List.setIfInBounds_toArray, List.set_cons_zero, List.set_cons_succ])
                                        refine wpAnyH_take (i := 6) (v := ?_) rfl (by kernel_rfl) (by kernel_rfl) (by kernel_rfl) (fun _ _ _ h => h) (Or.inl ⟨by rfl, ?_⟩) (by assumption) ?_
                                        rotate_left
                                        · intro w hSw; (try dsimp only at hSw); go_simp; (try with_reducible rfl)
                                        (try simp only [Act.put, List.getElem_toArray, List.getElem_cons_zero, List.getElem_cons_succ, List.setIfInBounds_toArray, List.set_cons_zero, List.set_cons_succ])
                                        refine wpAnyH_take (i := 7) (v := ?_) rfl (by kernel_rfl) (by kernel_rfl) (by kernel_rfl) (fun _ _ _ h => h) (Or.inl ⟨by rfl, ?_⟩) (by assumption) ?_
                                        rotate_left
                                        · intro w hSw; (try dsimp only at hSw); go_simp; (try with_reducible rfl)
                                        (try simp only [Act.put, List.getElem_toArray, List.getElem_cons_zero, List.getElem_cons_succ, List.setIfInBounds_toArray, List.set_cons_zero, List.set_cons_succ])
                                        refine wpAnyH_take (i := 8) (v := .slice (some ⟨q3, 0, none⟩) n5 7) rfl (by kernel_rfl) (by kernel_rfl) (by kernel_rfl) (fun _ _ _ h => h) (Or.inl ⟨by rfl, ?_⟩) (by assumption) ?_
                                        · intro w hSw; (try dsimp only at hSw); go_simp; (try simp only [hw5, he5]); (try simp); (try (intro hx; exfalso; omega))
                                        (try simp only [Act.put, List.getElem_toArray, List.getElem_cons_zero, List.getElem_cons_succ, List.setIfInBounds_toArray, List.set_cons_zero, List.set_cons_succ])
                                        revert hHeld; revert hx5; revert hw5; revert ht5; revert hqp3; revert hqp19; revert he5; revert hb5; revert Lit3; revert Lit19; revert gFz; revert BmFz; revert cFz; revert x5; revert n5; revert m5; revert q19; revert q3; revert wq4019
                                        exact keyT48 true
                                      refine AllReadyH.cons rfl (fun K hK => ?_) AllReadyH.nil
                                      go_simp
                                      have hal := (Below.refl wq4004.heap.size wq4004).alloc (Nat.le_refl _) (.cells #[.int .i64 0, .int .i64 0, .int .i64 10, .int .i64 12, .int .i64 (-1), .int .i64 4001] 3)
                                      have hcl := cFz.lt
                                      replace cFz := cFz.all hal
                                      replace BmFz := BmFz.all hal
                                      replace gFz := grown_trans gFz (below_grown (row := some p_) hal)
                                      replace Lit19 := Lit19.all hal
                                      replace Lit3 := Lit3.all hal
                                      have Lit11 : Blk _ (wq4004.heap.size) _ _ := Blk.new wq4004 #[.int .i64 0, .int .i64 0, .int .i64 10, .int .i64 12, .int .i64 (-1), .int .i64 4001] 3
                                      obtain ⟨q11, hq⟩ : ∃ q, wq4004.heap.size = q := ⟨_, rfl⟩
                                      rw [hq] at Lit11 ⊢
                                      have hqp11 : q11 ≠ p_ := by omega
                                      clear hcl
                                      obtain ⟨wq4020, hw⟩ : ∃ v, wq4004.alloc (.cells #[.int .i64 0, .int .i64 0, .int .i64 10, .int .i64 12, .int .i64 (-1), .int .i64 4001] 3) = v := ⟨_, rfl⟩
                                      rw [hw] at cFz BmFz gFz Lit19 Lit3 Lit11 ⊢
                                      clear hal hw hq
                                      refine hK.out _ _ (by exact ⟨BmFz.cell 0, BmFz.cell 1, BmFz.cell 2, BmFz.cell 3, BmFz.cell 4⟩) (fun hHeld => ?_)
                                      clear hK K
                                      (try simp only [Act.put, List.getElem_toArray, List.getElem_cons_zero, List.getElem_cons_succ, List.setIfInBounds_toArray, List.set_cons_zero, List.set_cons_succ])
                                      revert hHeld; revert hqp3; revert hqp19; revert hqp11; revert Lit3; revert Lit19; revert Lit11; revert gFz; revert BmFz; revert cFz; revert q19; revert q11; revert q3; revert wq4020
                                      exact keyT43 true
                                  case keyT42 =>
                                    intro _ wq4003 q3 q11 cFz BmFz gFz Lit11 Lit3 hqp11 hqp3 hHeld
                                    clear hHeld
                                    refine wpAnyH_ready (rs := [5, 19]) (by kernel_rfl) (by simp) ?_
                                    refine AllReadyH.cons rfl (fun K hK => ?_) ?_
                                    · skip
                                      go_simp
                                      refine (pick_any p_ (0 + 100 + 10000) 24 _ cFz (by omega) (by omega) (by omega)).mono ?_
                                      rintro e wq4021 ⟨x5, rfl, xq5, hc, hg⟩
                                      obtain ⟨m5, hm⟩ : ∃ m : Nat, x5 / 11 = (m : Int) := ⟨(x5 / 11).toNat, by omega⟩
                                      have ht5 : Int.tdiv x5 11 = (m5 : Int) := by rw [Int.tdiv_eq_ediv_of_nonneg (by omega), hm]
                                      obtain ⟨n5, hn_⟩ : ∃ z : Nat, 5 + m5 = z := ⟨_, rfl⟩
                                      have hb5 : 5 ≤ n5 ∧ n5 ≤ 7 := by omega
                                      have he5 : IntKind.i64.wrap (5 + (m5 : Int)) = (n5 : Int) := by rw [IntWalk.i64_in _ (by omega)]; omega
                                      have hx5 : 0 ≤ x5 := by omega
                                      have hw5 : IntKind.i64.wrap (m5 : Int) = (m5 : Int) := IntWalk.i64_in _ (by omega)
                                      clear hm hn_ xq5
                                      clear cFz
                                      have cFz := hc
                                      replace BmFz := BmFz.mark hg (fun z hz => by cases hz; omega)
                                      replace gFz := grown_trans gFz hg
                                      replace Lit11 := Lit11.mark hg (fun z hz => by cases hz; omega)
                                      replace Lit3 := Lit3.mark hg (fun z hz => by cases hz; omega)
                                      clear hc hg
                                      refine hK.out _ _ (by exact ⟨BmFz.cell 0, BmFz.cell 1, BmFz.cell 2, BmFz.cell 3, BmFz.cell 4⟩) (fun hHeld => ?_)
                                      clear hK K
                                      (try simp only [Act.put, List.getElem_toArray, List.getElem_cons_zero, List.getElem_cons_succ, List.setIfInBounds_toArray, List.set_cons_zero, List.set_cons_succ])
                                      refine wpAnyH_take (i := 6) (v := ?_) rfl (by kernel_rfl) (by kernel_rfl) (by kernel_rfl) (fun _ _ _ h => h) (Or.inl ⟨by rfl, ?_⟩) (by assumption) ?_
                                      rotate_left
                                      · intro w hSw; (try dsimp only at hSw); go_simp; (try with_reducible rfl)
                                      (try simp only [Act.put, List.getElem_toArray, List.getElem_cons_zero, List.getElem_cons_succ, List.setIfInBounds_toArray, List.set_cons_zero, List.set_cons_succ])
                                      refine wpAnyH_take (i := 7) (v := ?_) rfl (by kernel_rfl) (by kernel_rfl) (by kernel_rfl) (fun _ _ _ h => h) (Or.inl ⟨by rfl, ?_⟩) (by assumption) ?_
                                      rotate_left
                                      · intro w hSw; (try dsimp only at hSw); go_simp; (try with_reducible rfl)
                                      (try simp only [Act.put, List.getElem_toArray, List.getElem_cons_zero, List.getElem_cons_succ, List.setIfInBounds_toArray, List.set_cons_zero, List.set_cons_succ])
                                      refine wpAnyH_take (i := 8) (v := .slice (some ⟨q3, 0, none⟩) n5 7) rfl (by kernel_rfl) (by kernel_rfl) (by kernel_rfl) (fun _ _ _ h => h) (Or.inl ⟨by rfl, ?_⟩) (by assumption) ?_
                                      · intro w hSw; (try dsimp only at hSw); go_simp; (try simp only [hw5, he5]); (try simp); (try (intro hx; exfalso; omega))
                                      (try simp only [Act.put, List.getElem_toArray, List.getElem_cons_zero, List.getElem_cons_succ, List.setIfInBounds_toArray, List.set_cons_zero, List.set_cons_succ])
                                      revert hHeld; revert hx5; revert hw5; revert ht5; revert hqp3; revert hqp11; revert he5; revert hb5; revert Lit3; revert Lit11; revert gFz; revert BmFz; revert cFz; revert x5; revert n5; revert m5; revert q11; revert q3; revert wq4021
                                      exact keyT49 true
                                    refine AllReadyH.cons rfl (fun K hK => ?_) AllReadyH.nil
                                    go_simp
                                    have hal := (Below.refl wq4003.heap.size wq4003).alloc (Nat.le_refl _) (.cells #[.int .i64 10, .int .i64 20, .int .i64 4000, .int .i64 4000, .int .i64 0, .int .i64 4001] 3)
                                    have hcl := cFz.lt
                                    replace cFz := cFz.all hal
                                    replace BmFz := BmFz.all hal
                                    replace gFz := grown_trans gFz (below_grown (row := some p_) hal)
                                    replace Lit11 := Lit11.all hal
                                    replace Lit3 := Lit3.all hal
                                    have Lit19 : Blk _ (wq4003.heap.size) _ _ := Blk.new wq4003 #[.int .i64 10, .int .i64 20, .int .i64 4000, .int .i64 4000, .int .i64 0, .int .i64 4001] 3
                                    obtain ⟨q19, hq⟩ : ∃ q, wq4003.heap.size = q := ⟨_, rfl⟩
                                    rw [hq] at Lit19 ⊢
                                    have hqp19 : q19 ≠ p_ := by omega
                                    clear hcl
                                    obtain ⟨wq4022, hw⟩ : ∃ v, wq4003.alloc (.cells #[.int .i64 10, .int .i64 20, .int .i64 4000, .int .i64 4000, .int .i64 0, .int .i64 4001] 3) = v := ⟨_, rfl⟩
                                    rw [hw] at cFz BmFz gFz Lit11 Lit3 Lit19 ⊢
                                    clear hal hw hq
                                    refine hK.out _ _ (by exact ⟨BmFz.cell 0, BmFz.cell 1, BmFz.cell 2, BmFz.cell 3, BmFz.cell 4⟩) (fun hHeld => ?_)
                                    clear hK K
                                    (try simp only [Act.put, List.getElem_toArray, List.getElem_cons_zero, List.getElem_cons_succ, List.setIfInBounds_toArray, List.set_cons_zero, List.set_cons_succ])
                                    revert hHeld; revert hqp3; revert hqp19; revert hqp11; revert Lit3; revert Lit19; revert Lit11; revert gFz; revert BmFz; revert cFz; revert q19; revert q11; revert q3; revert wq4022
                                    exact keyT43 true
                                case keyT43 =>
                                  intro _ wq4017 q3 q11 q19 cFz BmFz gFz Lit11 Lit19 Lit3 hqp11 hqp19 hqp3 hHeld
                                  clear hHeld
                                  refine wpAnyH_ready (rs := [5]) (by kernel_rfl) (by simp) ?_
                                  refine AllReadyH.cons rfl (fun K hK => ?_) AllReadyH.nil
                                  go_simp
                                  refine (pick_any p_ (0 + 100 + 10000) 24 _ cFz (by omega) (by omega) (by omega)).mono ?_
                                  rintro e wq4023 ⟨x5, rfl, xq5, hc, hg⟩
                                  obtain ⟨m5, hm⟩ : ∃ m : Nat, x5 / 11 = (m : Int) := ⟨(x5 / 11).toNat, by omega⟩
                                  have ht5 : Int.tdiv x5 11 = (m5 : Int) := by rw [Int.tdiv_eq_ediv_of_nonneg (by omega), hm]
                                  obtain ⟨n5, hn_⟩ : ∃ z : Nat, 5 + m5 = z := ⟨_, rfl⟩
                                  have hb5 : 5 ≤ n5 ∧ n5 ≤ 7 := by omega
                                  have he5 : IntKind.i64.wrap (5 + (m5 : Int)) = (n5 : Int) := by rw [IntWalk.i64_in _ (by omega)]; omega
                                  have hx5 : 0 ≤ x5 := by omega
                                  have hw5 : IntKind.i64.wrap (m5 : Int) = (m5 : Int) := IntWalk.i64_in _ (by omega)
                                  clear hm hn_ xq5
                                  clear cFz
                                  have cFz := hc
                                  replace BmFz := BmFz.mark hg (fun z hz => by cases hz; omega)
                                  replace gFz := grown_trans gFz hg
                                  replace Lit11 := Lit11.mark hg (fun z hz => by cases hz; omega)
                                  replace Lit19 := Lit19.mark hg (fun z hz => by cases hz; omega)
                                  replace Lit3 := Lit3.mark hg (fun z hz => by cases hz; omega)
                                  clear hc hg
                                  refine hK.out _ _ (by exact ⟨BmFz.cell 0, BmFz.cell 1, BmFz.cell 2, BmFz.cell 3, BmFz.cell 4⟩) (fun hHeld => ?_)
                                  clear hK K
                                  (try simp only [Act.put, List.getElem_toArray, List.getElem_cons_zero, List.getElem_cons_succ, List.setIfInBounds_toArray, List.set_cons_zero, List.set_cons_succ])
                                  refine wpAnyH_take (i := 6) (v := ?_) rfl (by kernel_rfl) (by kernel_rfl) (by kernel_rfl) (fun _ _ _ h => h) (Or.inl ⟨by rfl, ?_⟩) (by assumption) ?_
                                  rotate_left
                                  · intro w hSw; (try dsimp only at hSw); go_simp; (try with_reducible rfl)
                                  (try simp only [Act.put, List.getElem_toArray, List.getElem_cons_zero, List.getElem_cons_succ, List.setIfInBounds_toArray, List.set_cons_zero, List.set_cons_succ])
                                  refine wpAnyH_take (i := 7) (v := ?_) rfl (by kernel_rfl) (by kernel_rfl) (by kernel_rfl) (fun _ _ _ h => h) (Or.inl ⟨by rfl, ?_⟩) (by assumption) ?_
                                  rotate_left
                                  · intro w hSw; (try dsimp only at hSw); go_simp; (try with_reducible rfl)
                                  (try simp only [Act.put, List.getElem_toArray, List.getElem_cons_zero, List.getElem_cons_succ, List.setIfInBounds_toArray, List.set_cons_zero, List.set_cons_succ])
                                  refine wpAnyH_take (i := 8) (v := .slice (some ⟨q3, 0, none⟩) n5 7) rfl (by kernel_rfl) (by kernel_rfl) (by kernel_rfl) (fun _ _ _ h => h) (Or.inl ⟨by rfl, ?_⟩) (by assumption) ?_
                                  · intro w hSw; (try dsimp only at hSw); go_simp; (try simp only [hw5, he5]); (try simp); (try (intro hx; exfalso; omega))
                                  (try simp only [Act.put, List.getElem_toArray, List.getElem_cons_zero, List.getElem_cons_succ, List.setIfInBounds_toArray, List.set_cons_zero, List.set_cons_succ])
                                  revert hHeld; revert hx5; revert hw5; revert ht5; revert hqp3; revert hqp19; revert hqp11; revert he5; revert hb5; revert Lit3; revert Lit19; revert Lit11; revert gFz; revert BmFz; revert cFz; revert x5; revert n5; revert m5; revert q19; revert q11; revert q3; revert wq4023
                                  exact keyT410 true
                              case keyT44 =>
                                intro _ wq4007 q11 m5 n5 x5 cFz BmFz gFz Lit11 hb5 he5 hqp11 ht5 hw5 hx5 hHeld
                                clear hHeld
                                refine wpAnyH_ready (rs := [3, 19]) (by kernel_rfl) (by simp) ?_
                                refine AllReadyH.cons rfl (fun K hK => ?_) ?_
                                · skip
                                  go_simp
                                  have hal := (Below.refl wq4007.heap.size wq4007).alloc (Nat.le_refl _) (.cells #[.int .i64 1, .int .i64 1, .int .i64 2, .int .i64 3, .int .i64 99, .int .i64 0, .int .i64 100] 3)
                                  have hcl := cFz.lt
                                  replace cFz := cFz.all hal
                                  replace BmFz := BmFz.all hal
                                  replace gFz := grown_trans gFz (below_grown (row := some p_) hal)
                                  replace Lit11 := Lit11.all hal
                                  have Lit3 : Blk _ (wq4007.heap.size) _ _ := Blk.new wq4007 #[.int .i64 1, .int .i64 1, .int .i64 2, .int .i64 3, .int .i64 99, .int .i64 0, .int .i64 100] 3
                                  obtain ⟨q3, hq⟩ : ∃ q, wq4007.heap.size = q := ⟨_, rfl⟩
                                  rw [hq] at Lit3 ⊢
                                  have hqp3 : q3 ≠ p_ := by omega
                                  clear hcl
                                  obtain ⟨wq4024, hw⟩ : ∃ v, wq4007.alloc (.cells #[.int .i64 1, .int .i64 1, .int .i64 2, .int .i64 3, .int .i64 99, .int .i64 0, .int .i64 100] 3) = v := ⟨_, rfl⟩
                                  rw [hw] at cFz BmFz gFz Lit11 Lit3 ⊢
                                  clear hal hw hq
                                  refine hK.out _ _ (by exact ⟨BmFz.cell 0, BmFz.cell 1, BmFz.cell 2, BmFz.cell 3, BmFz.cell 4⟩) (fun hHeld => ?_)
                                  clear hK K
                                  (try simp only [Act.put, List.getElem_toArray, List.getElem_cons_zero, List.getElem_cons_succ, List.setIfInBounds_toArray, List.set_cons_zero, List.set_cons_succ])
                                  refine wpAnyH_take (i := 8) (v := .slice (some ⟨q3, 0, none⟩) n5 7) rfl (by kernel_rfl) (by kernel_rfl) (by kernel_rfl) (fun _ _ _ h => h) (Or.inl ⟨by rfl, ?_⟩) (by assumption) ?_
                                  · intro w hSw; (try dsimp only at hSw); go_simp; (try simp only [hw5, he5]); (try simp); (try (intro hx; exfalso; omega))
                                  (try simp only [Act.put, List.getElem_toArray, List.getElem_cons_zero, List.getElem_cons_succ, List.setIfInBounds_toArray, List.set_cons_zero, List.set_cons_succ])
                                  revert hHeld; revert hx5; revert hw5; revert ht5; revert hqp3; revert hqp11; revert he5; revert hb5; revert Lit3; revert Lit11; revert gFz; revert BmFz; revert cFz; revert x5; revert n5; revert m5; revert q11; revert q3; revert wq4024
                                  exact keyT49 true
                                refine AllReadyH.cons rfl (fun K hK => ?_) AllReadyH.nil
                                go_simp
                                have hal := (Below.refl wq4007.heap.size wq4007).alloc (Nat.le_refl _) (.cells #[.int .i64 10, .int .i64 20, .int .i64 4000, .int .i64 4000, .int .i64 0, .int .i64 4001] 3)
                                have hcl := cFz.lt
                                replace cFz := cFz.all hal
                                replace BmFz := BmFz.all hal
                                replace gFz := grown_trans gFz (below_grown (row := some p_) hal)
                                replace Lit11 := Lit11.all hal
                                have Lit19 : Blk _ (wq4007.heap.size) _ _ := Blk.new wq4007 #[.int .i64 10, .int .i64 20, .int .i64 4000, .int .i64 4000, .int .i64 0, .int .i64 4001] 3
                                obtain ⟨q19, hq⟩ : ∃ q, wq4007.heap.size = q := ⟨_, rfl⟩
                                rw [hq] at Lit19 ⊢
                                have hqp19 : q19 ≠ p_ := by omega
                                clear hcl
                                obtain ⟨wq4025, hw⟩ : ∃ v, wq4007.alloc (.cells #[.int .i64 10, .int .i64 20, .int .i64 4000, .int .i64 4000, .int .i64 0, .int .i64 4001] 3) = v := ⟨_, rfl⟩
                                rw [hw] at cFz BmFz gFz Lit11 Lit19 ⊢
                                clear hal hw hq
                                refine hK.out _ _ (by exact ⟨BmFz.cell 0, BmFz.cell 1, BmFz.cell 2, BmFz.cell 3, BmFz.cell 4⟩) (fun hHeld => ?_)
                                clear hK K
                                (try simp only [Act.put, List.getElem_toArray, List.getElem_cons_zero, List.getElem_cons_succ, List.setIfInBounds_toArray, List.set_cons_zero, List.set_cons_succ])
                                revert hHeld; revert hx5; revert hw5; revert ht5; revert hqp19; revert hqp11; revert he5; revert hb5; revert Lit19; revert Lit11; revert gFz; revert BmFz; revert cFz; revert x5; revert n5; revert m5; revert q19; revert q11; revert wq4025
                                exact keyT46 true
                            case keyT45 =>
                              intro _ wq4008 q19 m5 n5 x5 cFz BmFz gFz Lit19 hb5 he5 hqp19 ht5 hw5 hx5 hHeld
                              clear hHeld
                              refine wpAnyH_ready (rs := [3, 11]) (by kernel_rfl) (by simp) ?_
                              refine AllReadyH.cons rfl (fun K hK => ?_) ?_
                              · skip
                                go_simp
                                have hal := (Below.refl wq4008.heap.size wq4008).alloc (Nat.le_refl _) (.cells #[.int .i64 1, .int .i64 1, .int .i64 2, .int .i64 3, .int .i64 99, .int .i64 0, .int .i64 100] 3)
                                have hcl := cFz.lt
                                replace cFz := cFz.all hal
                                replace BmFz := BmFz.all hal
                                replace gFz := grown_trans gFz (below_grown (row := some p_) hal)
                                replace Lit19 := Lit19.all hal
                                have Lit3 : Blk _ (wq4008.heap.size) _ _ := Blk.new wq4008 #[.int .i64 1, .int .i64 1, .int .i64 2, .int .i64 3, .int .i64 99, .int .i64 0, .int .i64 100] 3
                                obtain ⟨q3, hq⟩ : ∃ q, wq4008.heap.size = q := ⟨_, rfl⟩
                                rw [hq] at Lit3 ⊢
                                have hqp3 : q3 ≠ p_ := by omega
                                clear hcl
                                obtain ⟨wq4026, hw⟩ : ∃ v, wq4008.alloc (.cells #[.int .i64 1, .int .i64 1, .int .i64 2, .int .i64 3, .int .i64 99, .int .i64 0, .int .i64 100] 3) = v := ⟨_, rfl⟩
                                rw [hw] at cFz BmFz gFz Lit19 Lit3 ⊢
                                clear hal hw hq
                                refine hK.out _ _ (by exact ⟨BmFz.cell 0, BmFz.cell 1, BmFz.cell 2, BmFz.cell 3, BmFz.cell 4⟩) (fun hHeld => ?_)
                                clear hK K
                                (try simp only [Act.put, List.getElem_toArray, List.getElem_cons_zero, List.getElem_cons_succ, List.setIfInBounds_toArray, List.set_cons_zero, List.set_cons_succ])
                                refine wpAnyH_take (i := 8) (v := .slice (some ⟨q3, 0, none⟩) n5 7) rfl (by kernel_rfl) (by kernel_rfl) (by kernel_rfl) (fun _ _ _ h => h) (Or.inl ⟨by rfl, ?_⟩) (by assumption) ?_
                                · intro w hSw; (try dsimp only at hSw); go_simp; (try simp only [hw5, he5]); (try simp); (try (intro hx; exfalso; omega))
                                (try simp only [Act.put, List.getElem_toArray, List.getElem_cons_zero, List.getElem_cons_succ, List.setIfInBounds_toArray, List.set_cons_zero, List.set_cons_succ])
                                revert hHeld; revert hx5; revert hw5; revert ht5; revert hqp3; revert hqp19; revert he5; revert hb5; revert Lit3; revert Lit19; revert gFz; revert BmFz; revert cFz; revert x5; revert n5; revert m5; revert q19; revert q3; revert wq4026
                                exact keyT48 true
                              refine AllReadyH.cons rfl (fun K hK => ?_) AllReadyH.nil
                              go_simp
                              have hal := (Below.refl wq4008.heap.size wq4008).alloc (Nat.le_refl _) (.cells #[.int .i64 0, .int .i64 0, .int .i64 10, .int .i64 12, .int .i64 (-1), .int .i64 4001] 3)
                              have hcl := cFz.lt
                              replace cFz := cFz.all hal
                              replace BmFz := BmFz.all hal
                              replace gFz := grown_trans gFz (below_grown (row := some p_) hal)
                              replace Lit19 := Lit19.all hal
                              have Lit11 : Blk _ (wq4008.heap.size) _ _ := Blk.new wq4008 #[.int .i64 0, .int .i64 0, .int .i64 10, .int .i64 12, .int .i64 (-1), .int .i64 4001] 3
                              obtain ⟨q11, hq⟩ : ∃ q, wq4008.heap.size = q := ⟨_, rfl⟩
                              rw [hq] at Lit11 ⊢
                              have hqp11 : q11 ≠ p_ := by omega
                              clear hcl
                              obtain ⟨wq4027, hw⟩ : ∃ v, wq4008.alloc (.cells #[.int .i64 0, .int .i64 0, .int .i64 10, .int .i64 12, .int .i64 (-1), .int .i64 4001] 3) = v := ⟨_, rfl⟩
                              rw [hw] at cFz BmFz gFz Lit19 Lit11 ⊢
                              clear hal hw hq
                              refine hK.out _ _ (by exact ⟨BmFz.cell 0, BmFz.cell 1, BmFz.cell 2, BmFz.cell 3, BmFz.cell 4⟩) (fun hHeld => ?_)
                              clear hK K
                              (try simp only [Act.put, List.getElem_toArray, List.getElem_cons_zero, List.getElem_cons_succ, List.setIfInBounds_toArray, List.set_cons_zero, List.set_cons_succ])
                              revert hHeld; revert hx5; revert hw5; revert ht5; revert hqp19; revert hqp11; revert he5; revert hb5; revert Lit19; revert Lit11; revert gFz; revert BmFz; revert cFz; revert x5; revert n5; revert m5; revert q19; revert q11; revert wq4027
                              exact keyT46 true
                          case keyT46 =>
                            intro _ wq4018 q11 q19 m5 n5 x5 cFz BmFz gFz Lit11 Lit19 hb5 he5 hqp11 hqp19 ht5 hw5 hx5 hHeld
                            clear hHeld
                            refine wpAnyH_ready (rs := [3]) (by kernel_rfl) (by simp) ?_
                            refine AllReadyH.cons rfl (fun K hK => ?_) AllReadyH.nil
                            go_simp
                            have hal := (Below.refl wq4018.heap.size wq4018).alloc (Nat.le_refl _) (.cells #[.int .i64 1, .int .i64 1, .int .i64 2, .int .i64 3, .int .i64 99, .int .i64 0, .int .i64 100] 3)
                            have hcl := cFz.lt
                            replace cFz := cFz.all hal
                            replace BmFz := BmFz.all hal
                            replace gFz := grown_trans gFz (below_grown (row := some p_) hal)
                            replace Lit11 := Lit11.all hal
                            replace Lit19 := Lit19.all hal
                            have Lit3 : Blk _ (wq4018.heap.size) _ _ := Blk.new wq4018 #[.int .i64 1, .int .i64 1, .int .i64 2, .int .i64 3, .int .i64 99, .int .i64 0, .int .i64 100] 3
                            obtain ⟨q3, hq⟩ : ∃ q, wq4018.heap.size = q := ⟨_, rfl⟩
                            rw [hq] at Lit3 ⊢
                            have hqp3 : q3 ≠ p_ := by omega
                            clear hcl
                            obtain ⟨wq4028, hw⟩ : ∃ v, wq4018.alloc (.cells #[.int .i64 1, .int .i64 1, .int .i64 2, .int .i64 3, .int .i64 99, .int .i64 0, .int .i64 100] 3) = v := ⟨_, rfl⟩
                            rw [hw] at cFz BmFz gFz Lit11 Lit19 Lit3 ⊢
                            clear hal hw hq
                            refine hK.out _ _ (by exact ⟨BmFz.cell 0, BmFz.cell 1, BmFz.cell 2, BmFz.cell 3, BmFz.cell 4⟩) (fun hHeld => ?_)
                            clear hK K
                            (try simp only [Act.put, List.getElem_toArray, List.getElem_cons_zero, List.getElem_cons_succ, List.setIfInBounds_toArray, List.set_cons_zero, List.set_cons_succ])
                            refine wpAnyH_take (i := 8) (v := .slice (some ⟨q3, 0, none⟩) n5 7) rfl (by kernel_rfl) (by kernel_rfl) (by kernel_rfl) (fun _ _ _ h => h) (Or.inl ⟨by rfl, ?_⟩) (by assumption) ?_
                            · intro w hSw; (try dsimp only at hSw); go_simp; (try simp only [hw5, he5]); (try simp); (try (intro hx; exfalso; omega))
                            (try simp only [Act.put, List.getElem_toArray, List.getElem_cons_zero, List.getElem_cons_succ, List.setIfInBounds_toArray, List.set_cons_zero, List.set_cons_succ])
                            revert hHeld; revert hx5; revert hw5; revert ht5; revert hqp3; revert hqp19; revert hqp11; revert he5; revert hb5; revert Lit3; revert Lit19; revert Lit11; revert gFz; revert BmFz; revert cFz; revert x5; revert n5; revert m5; revert q19; revert q11; revert q3; revert wq4028
                            exact keyT410 true
                        case keyT47 =>
                          intro _ wq4002 q3 m5 n5 x5 cFz BmFz gFz Lit3 hb5 he5 hqp3 ht5 hw5 hx5 hHeld
                          clear hHeld
                          refine wpAnyH_ready (rs := [9, 11, 19]) (by kernel_rfl) (by simp) ?_
                          refine AllReadyH.cons rfl (fun K hK => ?_) ?_
                          · skip
                            go_simp
                            refine (among_head p_ ((0 + 100 + 10000) + 2) q3 7 n5 _ [1, 1, 2, 3, 99, 0, 100] _ cFz (by omega) (rd5 (xs := [1, 1, 2, 3, 99, 0, 100]) Lit3 (i64_litb (by decide)) (by decide)) (by omega) (by omega) (by omega) (by omega)).mono ?_
                            rintro e wq4029 ⟨y9, rfl, hy9, hc, hg⟩
                            have Iy9 := i64_litb (l := [1, 1, 2, 3, 99, 0, 100]) (by decide) y9 hy9
                            clear hy9
                            clear cFz
                            have cFz := hc
                            replace BmFz := BmFz.mark hg (fun z hz => by cases hz; omega)
                            replace gFz := grown_trans gFz hg
                            replace Lit3 := Lit3.mark hg (fun z hz => by cases hz; omega)
                            clear hc hg
                            refine hK.out _ _ (by exact ⟨BmFz.cell 0, BmFz.cell 1, BmFz.cell 2, BmFz.cell 3, BmFz.cell 4⟩) (fun hHeld => ?_)
                            clear hK K
                            (try simp only [Act.put, List.getElem_toArray, List.getElem_cons_zero, List.getElem_cons_succ, List.setIfInBounds_toArray, List.set_cons_zero, List.set_cons_succ])
                            clear hHeld
                            refine wpAnyH_ready (rs := [11, 13, 19]) (by kernel_rfl) (by simp) ?_
                            refine AllReadyH.cons rfl (fun K hK => ?_) ?_
                            · skip
                              go_simp
                              have hal := (Below.refl wq4029.heap.size wq4029).alloc (Nat.le_refl _) (.cells #[.int .i64 0, .int .i64 0, .int .i64 10, .int .i64 12, .int .i64 (-1), .int .i64 4001] 3)
                              have hcl := cFz.lt
                              replace cFz := cFz.all hal
                              replace BmFz := BmFz.all hal
                              replace gFz := grown_trans gFz (below_grown (row := some p_) hal)
                              replace Lit3 := Lit3.all hal
                              have Lit11 : Blk _ (wq4029.heap.size) _ _ := Blk.new wq4029 #[.int .i64 0, .int .i64 0, .int .i64 10, .int .i64 12, .int .i64 (-1), .int .i64 4001] 3
                              obtain ⟨q11, hq⟩ : ∃ q, wq4029.heap.size = q := ⟨_, rfl⟩
                              rw [hq] at Lit11 ⊢
                              have hqp11 : q11 ≠ p_ := by omega
                              clear hcl
                              obtain ⟨wq4030, hw⟩ : ∃ v, wq4029.alloc (.cells #[.int .i64 0, .int .i64 0, .int .i64 10, .int .i64 12, .int .i64 (-1), .int .i64 4001] 3) = v := ⟨_, rfl⟩
                              rw [hw] at cFz BmFz gFz Lit3 Lit11 ⊢
                              clear hal hw hq
                              refine hK.out _ _ (by exact ⟨BmFz.cell 0, BmFz.cell 1, BmFz.cell 2, BmFz.cell 3, BmFz.cell 4⟩) (fun hHeld => ?_)
                              clear hK K
                              (try simp only [Act.put, List.getElem_toArray, List.getElem_cons_zero, List.getElem_cons_succ, List.setIfInBounds_toArray, List.set_cons_zero, List.set_cons_succ])
                              revert hHeld; revert hx5; revert hw5; revert ht5; revert hqp3; revert hqp11; revert he5; revert hb5; revert Iy9; revert Lit3; revert Lit11; revert gFz; revert BmFz; revert cFz; revert y9; revert x5; revert n5; revert m5; revert q11; revert q3; revert wq4030
                              exact keyT411 true
                            refine AllReadyH.cons rfl (fun K hK => ?_) ?_
                            · skip
                              go_simp
                              refine (pick_any p_ (((0 + 100 + 10000) + 2) + 2) 24 _ cFz (by omega) (by omega) (by omega)).mono ?_
                              rintro e wq4031 ⟨x13, rfl, xq13, hc, hg⟩
                              obtain ⟨m13, hm⟩ : ∃ m : Nat, x13 / 11 = (m : Int) := ⟨(x13 / 11).toNat, by omega⟩
                              have ht13 : Int.tdiv x13 11 = (m13 : Int) := by rw [Int.tdiv_eq_ediv_of_nonneg (by omega), hm]
                              obtain ⟨n13, hn_⟩ : ∃ z : Nat, 4 + m13 = z := ⟨_, rfl⟩
                              have hb13 : 4 ≤ n13 ∧ n13 ≤ 6 := by omega
                              have he13 : IntKind.i64.wrap (4 + (m13 : Int)) = (n13 : Int) := by rw [IntWalk.i64_in _ (by omega)]; omega
                              have hx13 : 0 ≤ x13 := by omega
                              have hw13 : IntKind.i64.wrap (m13 : Int) = (m13 : Int) := IntWalk.i64_in _ (by omega)
                              clear hm hn_ xq13
                              clear cFz
                              have cFz := hc
                              replace BmFz := BmFz.mark hg (fun z hz => by cases hz; omega)
                              replace gFz := grown_trans gFz hg
                              replace Lit3 := Lit3.mark hg (fun z hz => by cases hz; omega)
                              clear hc hg
                              refine hK.out _ _ (by exact ⟨BmFz.cell 0, BmFz.cell 1, BmFz.cell 2, BmFz.cell 3, BmFz.cell 4⟩) (fun hHeld => ?_)
                              clear hK K
                              (try simp only [Act.put, List.getElem_toArray, List.getElem_cons_zero, List.getElem_cons_succ, List.setIfInBounds_toArray, List.set_cons_zero, List.set_cons_succ])
                              refine wpAnyH_take (i := 14) (v := ?_) rfl (by kernel_rfl) (by kernel_rfl) (by kernel_rfl) (fun _ _ _ h => h) (Or.inl ⟨by rfl, ?_⟩) (by assumption) ?_
                              rotate_left
                              · intro w hSw; (try dsimp only at hSw); go_simp; (try with_reducible rfl)
                              (try simp only [Act.put, List.getElem_toArray, List.getElem_cons_zero, List.getElem_cons_succ, List.setIfInBounds_toArray, List.set_cons_zero, List.set_cons_succ])
                              refine wpAnyH_take (i := 15) (v := ?_) rfl (by kernel_rfl) (by kernel_rfl) (by kernel_rfl) (fun _ _ _ h => h) (Or.inl ⟨by rfl, ?_⟩) (by assumption) ?_
                              rotate_left
                              · intro w hSw; (try dsimp only at hSw); go_simp; (try with_reducible rfl)
                              (try simp only [Act.put, List.getElem_toArray, List.getElem_cons_zero, List.getElem_cons_succ, List.setIfInBounds_toArray, List.set_cons_zero, List.set_cons_succ])
                              clear hHeld
                              refine wpAnyH_ready (rs := [11, 19]) (by kernel_rfl) (by simp) ?_
                              refine AllReadyH.cons rfl (fun K hK => ?_) ?_
                              · skip
                                go_simp
                                have hal := (Below.refl wq4031.heap.size wq4031).alloc (Nat.le_refl _) (.cells #[.int .i64 0, .int .i64 0, .int .i64 10, .int .i64 12, .int .i64 (-1), .int .i64 4001] 3)
                                have hcl := cFz.lt
                                replace cFz := cFz.all hal
                                replace BmFz := BmFz.all hal
                                replace gFz := grown_trans gFz (below_grown (row := some p_) hal)
                                replace Lit3 := Lit3.all hal
                                have Lit11 : Blk _ (wq4031.heap.size) _ _ := Blk.new wq4031 #[.int .i64 0, .int .i64 0, .int .i64 10, .int .i64 12, .int .i64 (-1), .int .i64 4001] 3
                                obtain ⟨q11, hq⟩ : ∃ q, wq4031.heap.size = q := ⟨_, rfl⟩
                                rw [hq] at Lit11 ⊢
                                have hqp11 : q11 ≠ p_ := by omega
                                clear hcl
                                obtain ⟨wq4032, hw⟩ : ∃ v, wq4031.alloc (.cells #[.int .i64 0, .int .i64 0, .int .i64 10, .int .i64 12, .int .i64 (-1), .int .i64 4001] 3) = v := ⟨_, rfl⟩
                                rw [hw] at cFz BmFz gFz Lit3 Lit11 ⊢
                                clear hal hw hq
                                refine hK.out _ _ (by exact ⟨BmFz.cell 0, BmFz.cell 1, BmFz.cell 2, BmFz.cell 3, BmFz.cell 4⟩) (fun hHeld => ?_)
                                clear hK K
                                (try simp only [Act.put, List.getElem_toArray, List.getElem_cons_zero, List.getElem_cons_succ, List.setIfInBounds_toArray, List.set_cons_zero, List.set_cons_succ])
                                refine wpAnyH_take (i := 16) (v := .slice (some ⟨q11, 0, none⟩) n13 6) rfl (by kernel_rfl) (by kernel_rfl) (by kernel_rfl) (fun _ _ _ h => h) (Or.inl ⟨by rfl, ?_⟩) (by assumption) ?_
                                · intro w hSw; (try dsimp only at hSw); go_simp; (try simp only [hw13, he13]); (try simp); (try (intro hx; exfalso; omega))
                                (try simp only [Act.put, List.getElem_toArray, List.getElem_cons_zero, List.getElem_cons_succ, List.setIfInBounds_toArray, List.set_cons_zero, List.set_cons_succ])
                                revert hHeld; revert hx5; revert hx13; revert hw5; revert hw13; revert ht5; revert ht13; revert hqp3; revert hqp11; revert he5; revert he13; revert hb5; revert hb13; revert Iy9; revert Lit3; revert Lit11; revert gFz; revert BmFz; revert cFz; revert y9; revert x5; revert x13; revert n5; revert n13; revert m5; revert m13; revert q11; revert q3; revert wq4032
                                exact keyT415 true
                              refine AllReadyH.cons rfl (fun K hK => ?_) AllReadyH.nil
                              go_simp
                              have hal := (Below.refl wq4031.heap.size wq4031).alloc (Nat.le_refl _) (.cells #[.int .i64 10, .int .i64 20, .int .i64 4000, .int .i64 4000, .int .i64 0, .int .i64 4001] 3)
                              have hcl := cFz.lt
                              replace cFz := cFz.all hal
                              replace BmFz := BmFz.all hal
                              replace gFz := grown_trans gFz (below_grown (row := some p_) hal)
                              replace Lit3 := Lit3.all hal
                              have Lit19 : Blk _ (wq4031.heap.size) _ _ := Blk.new wq4031 #[.int .i64 10, .int .i64 20, .int .i64 4000, .int .i64 4000, .int .i64 0, .int .i64 4001] 3
                              obtain ⟨q19, hq⟩ : ∃ q, wq4031.heap.size = q := ⟨_, rfl⟩
                              rw [hq] at Lit19 ⊢
                              have hqp19 : q19 ≠ p_ := by omega
                              clear hcl
                              obtain ⟨wq4033, hw⟩ : ∃ v, wq4031.alloc (.cells #[.int .i64 10, .int .i64 20, .int .i64 4000, .int .i64 4000, .int .i64 0, .int .i64 4001] 3) = v := ⟨_, rfl⟩
                              rw [hw] at cFz BmFz gFz Lit3 Lit19 ⊢
                              clear hal hw hq
                              refine hK.out _ _ (by exact ⟨BmFz.cell 0, BmFz.cell 1, BmFz.cell 2, BmFz.cell 3, BmFz.cell 4⟩) (fun hHeld => ?_)
                              clear hK K
                              (try simp only [Act.put, List.getElem_toArray, List.getElem_cons_zero, List.getElem_cons_succ, List.setIfInBounds_toArray, List.set_cons_zero, List.set_cons_succ])
                              revert hHeld; revert hx5; revert hx13; revert hw5; revert hw13; revert ht5; revert ht13; revert hqp3; revert hqp19; revert he5; revert he13; revert hb5; revert hb13; revert Iy9; revert Lit3; revert Lit19; revert gFz; revert BmFz; revert cFz; revert y9; revert x5; revert x13; revert n5; revert n13; revert m5; revert m13; revert q19; revert q3; revert wq4033
                              exact keyT414 true
                            refine AllReadyH.cons rfl (fun K hK => ?_) AllReadyH.nil
                            go_simp
                            have hal := (Below.refl wq4029.heap.size wq4029).alloc (Nat.le_refl _) (.cells #[.int .i64 10, .int .i64 20, .int .i64 4000, .int .i64 4000, .int .i64 0, .int .i64 4001] 3)
                            have hcl := cFz.lt
                            replace cFz := cFz.all hal
                            replace BmFz := BmFz.all hal
                            replace gFz := grown_trans gFz (below_grown (row := some p_) hal)
                            replace Lit3 := Lit3.all hal
                            have Lit19 : Blk _ (wq4029.heap.size) _ _ := Blk.new wq4029 #[.int .i64 10, .int .i64 20, .int .i64 4000, .int .i64 4000, .int .i64 0, .int .i64 4001] 3
                            obtain ⟨q19, hq⟩ : ∃ q, wq4029.heap.size = q := ⟨_, rfl⟩
                            rw [hq] at Lit19 ⊢
                            have hqp19 : q19 ≠ p_ := by omega
                            clear hcl
                            obtain ⟨wq4034, hw⟩ : ∃ v, wq4029.alloc (.cells #[.int .i64 10, .int .i64 20, .int .i64 4000, .int .i64 4000, .int .i64 0, .int .i64 4001] 3) = v := ⟨_, rfl⟩
                            rw [hw] at cFz BmFz gFz Lit3 Lit19 ⊢
                            clear hal hw hq
                            refine hK.out _ _ (by exact ⟨BmFz.cell 0, BmFz.cell 1, BmFz.cell 2, BmFz.cell 3, BmFz.cell 4⟩) (fun hHeld => ?_)
                            clear hK K
                            (try simp only [Act.put, List.getElem_toArray, List.getElem_cons_zero, List.getElem_cons_succ, List.setIfInBounds_toArray, List.set_cons_zero, List.set_cons_succ])
                            revert hHeld; revert hx5; revert hw5; revert ht5; revert hqp3; revert hqp19; revert he5; revert hb5; revert Iy9; revert Lit3; revert Lit19; revert gFz; revert BmFz; revert cFz; revert y9; revert x5; revert n5; revert m5; revert q19; revert q3; revert wq4034
                            exact keyT412 true
                          refine AllReadyH.cons rfl (fun K hK => ?_) ?_
                          · skip
                            go_simp
                            have hal := (Below.refl wq4002.heap.size wq4002).alloc (Nat.le_refl _) (.cells #[.int .i64 0, .int .i64 0, .int .i64 10, .int .i64 12, .int .i64 (-1), .int .i64 4001] 3)
                            have hcl := cFz.lt
                            replace cFz := cFz.all hal
                            replace BmFz := BmFz.all hal
                            replace gFz := grown_trans gFz (below_grown (row := some p_) hal)
                            replace Lit3 := Lit3.all hal
                            have Lit11 : Blk _ (wq4002.heap.size) _ _ := Blk.new wq4002 #[.int .i64 0, .int .i64 0, .int .i64 10, .int .i64 12, .int .i64 (-1), .int .i64 4001] 3
                            obtain ⟨q11, hq⟩ : ∃ q, wq4002.heap.size = q := ⟨_, rfl⟩
                            rw [hq] at Lit11 ⊢
                            have hqp11 : q11 ≠ p_ := by omega
                            clear hcl
                            obtain ⟨wq4035, hw⟩ : ∃ v, wq4002.alloc (.cells #[.int .i64 0, .int .i64 0, .int .i64 10, .int .i64 12, .int .i64 (-1), .int .i64 4001] 3) = v := ⟨_, rfl⟩
                            rw [hw] at cFz BmFz gFz Lit3 Lit11 ⊢
                            clear hal hw hq
                            refine hK.out _ _ (by exact ⟨BmFz.cell 0, BmFz.cell 1, BmFz.cell 2, BmFz.cell 3, BmFz.cell 4⟩) (fun hHeld => ?_)
                            clear hK K
                            (try simp only [Act.put, List.getElem_toArray, List.getElem_cons_zero, List.getElem_cons_succ, List.setIfInBounds_toArray, List.set_cons_zero, List.set_cons_succ])
                            revert hHeld; revert hx5; revert hw5; revert ht5; revert hqp3; revert hqp11; revert he5; revert hb5; revert Lit3; revert Lit11; revert gFz; revert BmFz; revert cFz; revert x5; revert n5; revert m5; revert q11; revert q3; revert wq4035
                            exact keyT49 true
                          refine AllReadyH.cons rfl (fun K hK => ?_) AllReadyH.nil
                          go_simp
                          have hal := (Below.refl wq4002.heap.size wq4002).alloc (Nat.le_refl _) (.cells #[.int .i64 10, .int .i64 20, .int .i64 4000, .int .i64 4000, .int .i64 0, .int .i64 4001] 3)
                          have hcl := cFz.lt
                          replace cFz := cFz.all hal
                          replace BmFz := BmFz.all hal
                          replace gFz := grown_trans gFz (below_grown (row := some p_) hal)
                          replace Lit3 := Lit3.all hal
                          have Lit19 : Blk _ (wq4002.heap.size) _ _ := Blk.new wq4002 #[.int .i64 10, .int .i64 20, .int .i64 4000, .int .i64 4000, .int .i64 0, .int .i64 4001] 3
                          obtain ⟨q19, hq⟩ : ∃ q, wq4002.heap.size = q := ⟨_, rfl⟩
                          rw [hq] at Lit19 ⊢
                          have hqp19 : q19 ≠ p_ := by omega
                          clear hcl
                          obtain ⟨wq4036, hw⟩ : ∃ v, wq4002.alloc (.cells #[.int .i64 10, .int .i64 20, .int .i64 4000, .int .i64 4000, .int .i64 0, .int .i64 4001] 3) = v := ⟨_, rfl⟩
                          rw [hw] at cFz BmFz gFz Lit3 Lit19 ⊢
                          clear hal hw hq
                          refine hK.out _ _ (by exact ⟨BmFz.cell 0, BmFz.cell 1, BmFz.cell 2, BmFz.cell 3, BmFz.cell 4⟩) (fun hHeld => ?_)
                          clear hK K
                          (try simp only [Act.put, List.getElem_toArray, List.getElem_cons_zero, List.getElem_cons_succ, List.setIfInBounds_toArray, List.set_cons_zero, List.set_cons_succ])
                          revert hHeld; revert hx5; revert hw5; revert ht5; revert hqp3; revert hqp19; revert he5; revert hb5; revert Lit3; revert Lit19; revert gFz; revert BmFz; revert cFz; revert x5; revert n5; revert m5; revert q19; revert q3; revert wq4036
                          exact keyT48 true
                      case keyT48 =>
                        intro _ wq4019 q3 q19 m5 n5 x5 cFz BmFz gFz Lit19 Lit3 hb5 he5 hqp19 hqp3 ht5 hw5 hx5 hHeld
                        clear hHeld
                        refine wpAnyH_ready (rs := [9, 11]) (by kernel_rfl) (by simp) ?_
                        refine AllReadyH.cons rfl (fun K hK => ?_) ?_
                        · skip
                          go_simp
                          refine (among_head p_ ((0 + 100 + 10000) + 2) q3 7 n5 _ [1, 1, 2, 3, 99, 0, 100] _ cFz (by omega) (rd5 (xs := [1, 1, 2, 3, 99, 0, 100]) Lit3 (i64_litb (by decide)) (by decide)) (by omega) (by omega) (by omega) (by omega)).mono ?_
                          rintro e wq4037 ⟨y9, rfl, hy9, hc, hg⟩
                          have Iy9 := i64_litb (l := [1, 1, 2, 3, 99, 0, 100]) (by decide) y9 hy9
                          clear hy9
                          clear cFz
                          have cFz := hc
                          replace BmFz := BmFz.mark hg (fun z hz => by cases hz; omega)
                          replace gFz := grown_trans gFz hg
                          replace Lit19 := Lit19.mark hg (fun z hz => by cases hz; omega)
                          replace Lit3 := Lit3.mark hg (fun z hz => by cases hz; omega)
                          clear hc hg
                          refine hK.out _ _ (by exact ⟨BmFz.cell 0, BmFz.cell 1, BmFz.cell 2, BmFz.cell 3, BmFz.cell 4⟩) (fun hHeld => ?_)
                          clear hK K
                          (try simp only [Act.put, List.getElem_toArray, List.getElem_cons_zero, List.getElem_cons_succ, List.setIfInBounds_toArray, List.set_cons_zero, List.set_cons_succ])
                          revert hHeld; revert hx5; revert hw5; revert ht5; revert hqp3; revert hqp19; revert he5; revert hb5; revert Iy9; revert Lit3; revert Lit19; revert gFz; revert BmFz; revert cFz; revert y9; revert x5; revert n5; revert m5; revert q19; revert q3; revert wq4037
                          exact keyT412 true
                        refine AllReadyH.cons rfl (fun K hK => ?_) AllReadyH.nil
                        go_simp
                        have hal := (Below.refl wq4019.heap.size wq4019).alloc (Nat.le_refl _) (.cells #[.int .i64 0, .int .i64 0, .int .i64 10, .int .i64 12, .int .i64 (-1), .int .i64 4001] 3)
                        have hcl := cFz.lt
                        replace cFz := cFz.all hal
                        replace BmFz := BmFz.all hal
                        replace gFz := grown_trans gFz (below_grown (row := some p_) hal)
                        replace Lit19 := Lit19.all hal
                        replace Lit3 := Lit3.all hal
                        have Lit11 : Blk _ (wq4019.heap.size) _ _ := Blk.new wq4019 #[.int .i64 0, .int .i64 0, .int .i64 10, .int .i64 12, .int .i64 (-1), .int .i64 4001] 3
                        obtain ⟨q11, hq⟩ : ∃ q, wq4019.heap.size = q := ⟨_, rfl⟩
                        rw [hq] at Lit11 ⊢
                        have hqp11 : q11 ≠ p_ := by omega
                        clear hcl
                        obtain ⟨wq4038, hw⟩ : ∃ v, wq4019.alloc (.cells #[.int .i64 0, .int .i64 0, .int .i64 10, .int .i64 12, .int .i64 (-1), .int .i64 4001] 3) = v := ⟨_, rfl⟩
                        rw [hw] at cFz BmFz gFz Lit19 Lit3 Lit11 ⊢
                        clear hal hw hq
                        refine hK.out _ _ (by exact ⟨BmFz.cell 0, BmFz.cell 1, BmFz.cell 2, BmFz.cell 3, BmFz.cell 4⟩) (fun hHeld => ?_)
                        clear hK K
                        (try simp only [Act.put, List.getElem_toArray, List.getElem_cons_zero, List.getElem_cons_succ, List.setIfInBounds_toArray, List.set_cons_zero, List.set_cons_succ])
                        revert hHeld; revert hx5; revert hw5; revert ht5; revert hqp3; revert hqp19; revert hqp11; revert he5; revert hb5; revert Lit3; revert Lit19; revert Lit11; revert gFz; revert BmFz; revert cFz; revert x5; revert n5; revert m5; revert q19; revert q11; revert q3; revert wq4038
                        exact keyT410 true
                    case keyT49 =>
                      intro _ wq4021 q3 q11 m5 n5 x5 cFz BmFz gFz Lit11 Lit3 hb5 he5 hqp11 hqp3 ht5 hw5 hx5 hHeld
                      clear hHeld
                      refine wpAnyH_ready (rs := [9, 19]) (by kernel_rfl) (by simp) ?_
                      refine AllReadyH.cons rfl (fun K hK => ?_) ?_
                      · skip
                        go_simp
                        refine (among_head p_ ((0 + 100 + 10000) + 2) q3 7 n5 _ [1, 1, 2, 3, 99, 0, 100] _ cFz (by omega) (rd5 (xs := [1, 1, 2, 3, 99, 0, 100]) Lit3 (i64_litb (by decide)) (by decide)) (by omega) (by omega) (by omega) (by omega)).mono ?_
                        rintro e wq4039 ⟨y9, rfl, hy9, hc, hg⟩
                        have Iy9 := i64_litb (l := [1, 1, 2, 3, 99, 0, 100]) (by decide) y9 hy9
                        clear hy9
                        clear cFz
                        have cFz := hc
                        replace BmFz := BmFz.mark hg (fun z hz => by cases hz; omega)
                        replace gFz := grown_trans gFz hg
                        replace Lit11 := Lit11.mark hg (fun z hz => by cases hz; omega)
                        replace Lit3 := Lit3.mark hg (fun z hz => by cases hz; omega)
                        clear hc hg
                        refine hK.out _ _ (by exact ⟨BmFz.cell 0, BmFz.cell 1, BmFz.cell 2, BmFz.cell 3, BmFz.cell 4⟩) (fun hHeld => ?_)
                        clear hK K
                        (try simp only [Act.put, List.getElem_toArray, List.getElem_cons_zero, List.getElem_cons_succ, List.setIfInBounds_toArray, List.set_cons_zero, List.set_cons_succ])
                        revert hHeld; revert hx5; revert hw5; revert ht5; revert hqp3; revert hqp11; revert he5; revert hb5; revert Iy9; revert Lit3; revert Lit11; revert gFz; revert BmFz; revert cFz; revert y9; revert x5; revert n5; revert m5; revert q11; revert q3; revert wq4039
                        exact keyT411 true
                      refine AllReadyH.cons rfl (fun K hK => ?_) AllReadyH.nil
                      go_simp
                      have hal := (Below.refl wq4021.heap.size wq4021).alloc (Nat.le_refl _) (.cells #[.int .i64 10, .int .i64 20, .int .i64 4000, .int .i64 4000, .int .i64 0, .int .i64 4001] 3)
                      have hcl := cFz.lt
                      replace cFz := cFz.all hal
                      replace BmFz := BmFz.all hal
                      replace gFz := grown_trans gFz (below_grown (row := some p_) hal)
                      replace Lit11 := Lit11.all hal
                      replace Lit3 := Lit3.all hal
                      have Lit19 : Blk _ (wq4021.heap.size) _ _ := Blk.new wq4021 #[.int .i64 10, .int .i64 20, .int .i64 4000, .int .i64 4000, .int .i64 0, .int .i64 4001] 3
                      obtain ⟨q19, hq⟩ : ∃ q, wq4021.heap.size = q := ⟨_, rfl⟩
                      rw [hq] at Lit19 ⊢
                      have hqp19 : q19 ≠ p_ := by omega
                      clear hcl
                      obtain ⟨wq4040, hw⟩ : ∃ v, wq4021.alloc (.cells #[.int .i64 10, .int .i64 20, .int .i64 4000, .int .i64 4000, .int .i64 0, .int .i64 4001] 3) = v := ⟨_, rfl⟩
                      rw [hw] at cFz BmFz gFz Lit11 Lit3 Lit19 ⊢
                      clear hal hw hq
                      refine hK.out _ _ (by exact ⟨BmFz.cell 0, BmFz.cell 1, BmFz.cell 2, BmFz.cell 3, BmFz.cell 4⟩) (fun hHeld => ?_)
                      clear hK K
                      (try simp only [Act.put, List.getElem_toArray, List.getElem_cons_zero, List.getElem_cons_succ, List.setIfInBounds_toArray, List.set_cons_zero, List.set_cons_succ])
                      revert hHeld; revert hx5; revert hw5; revert ht5; revert hqp3; revert hqp19; revert hqp11; revert he5; revert hb5; revert Lit3; revert Lit19; revert Lit11; revert gFz; revert BmFz; revert cFz; revert x5; revert n5; revert m5; revert q19; revert q11; revert q3; revert wq4040
                      exact keyT410 true
                  case keyT410 =>
                    intro _ wq4023 q3 q11 q19 m5 n5 x5 cFz BmFz gFz Lit11 Lit19 Lit3 hb5 he5 hqp11 hqp19 hqp3 ht5 hw5 hx5 hHeld
                    clear hHeld
                    refine wpAnyH_ready (rs := [9]) (by kernel_rfl) (by simp) ?_
                    refine AllReadyH.cons rfl (fun K hK => ?_) AllReadyH.nil
                    go_simp
                    refine (among_head p_ ((0 + 100 + 10000) + 2) q3 7 n5 _ [1, 1, 2, 3, 99, 0, 100] _ cFz (by omega) (rd5 (xs := [1, 1, 2, 3, 99, 0, 100]) Lit3 (i64_litb (by decide)) (by decide)) (by omega) (by omega) (by omega) (by omega)).mono ?_
                    rintro e wq4041 ⟨y9, rfl, hy9, hc, hg⟩
                    have Iy9 := i64_litb (l := [1, 1, 2, 3, 99, 0, 100]) (by decide) y9 hy9
                    clear hy9
                    clear cFz
                    have cFz := hc
                    replace BmFz := BmFz.mark hg (fun z hz => by cases hz; omega)
                    replace gFz := grown_trans gFz hg
                    replace Lit11 := Lit11.mark hg (fun z hz => by cases hz; omega)
                    replace Lit19 := Lit19.mark hg (fun z hz => by cases hz; omega)
                    replace Lit3 := Lit3.mark hg (fun z hz => by cases hz; omega)
                    clear hc hg
                    refine hK.out _ _ (by exact ⟨BmFz.cell 0, BmFz.cell 1, BmFz.cell 2, BmFz.cell 3, BmFz.cell 4⟩) (fun hHeld => ?_)
                    clear hK K
                    (try simp only [Act.put, List.getElem_toArray, List.getElem_cons_zero, List.getElem_cons_succ, List.setIfInBounds_toArray, List.set_cons_zero, List.set_cons_succ])
                    revert hHeld; revert hx5; revert hw5; revert ht5; revert hqp3; revert hqp19; revert hqp11; revert he5; revert hb5; revert Iy9; revert Lit3; revert Lit19; revert Lit11; revert gFz; revert BmFz; revert cFz; revert y9; revert x5; revert n5; revert m5; revert q19; revert q11; revert q3; revert wq4041
                    exact keyT413 true
                case keyT411 =>
                  intro _ wq4030 q3 q11 m5 n5 x5 y9 cFz BmFz gFz Lit11 Lit3 Iy9 hb5 he5 hqp11 hqp3 ht5 hw5 hx5 hHeld
                  clear hHeld
                  refine wpAnyH_ready (rs := [13, 19]) (by kernel_rfl) (by simp) ?_
                  refine AllReadyH.cons rfl (fun K hK => ?_) ?_
                  · skip
                    go_simp
                    refine (pick_any p_ (((0 + 100 + 10000) + 2) + 2) 24 _ cFz (by omega) (by omega) (by omega)).mono ?_
                    rintro e wq4042 ⟨x13, rfl, xq13, hc, hg⟩
                    obtain ⟨m13, hm⟩ : ∃ m : Nat, x13 / 11 = (m : Int) := ⟨(x13 / 11).toNat, by omega⟩
                    have ht13 : Int.tdiv x13 11 = (m13 : Int) := by rw [Int.tdiv_eq_ediv_of_nonneg (by omega), hm]
                    obtain ⟨n13, hn_⟩ : ∃ z : Nat, 4 + m13 = z := ⟨_, rfl⟩
                    have hb13 : 4 ≤ n13 ∧ n13 ≤ 6 := by omega
                    have he13 : IntKind.i64.wrap (4 + (m13 : Int)) = (n13 : Int) := by rw [IntWalk.i64_in _ (by omega)]; omega
                    have hx13 : 0 ≤ x13 := by omega
                    have hw13 : IntKind.i64.wrap (m13 : Int) = (m13 : Int) := IntWalk.i64_in _ (by omega)
                    clear hm hn_ xq13
                    clear cFz
                    have cFz := hc
                    replace BmFz := BmFz.mark hg (fun z hz => by cases hz; omega)
                    replace gFz := grown_trans gFz hg
                    replace Lit11 := Lit11.mark hg (fun z hz => by cases hz; omega)
                    replace Lit3 := Lit3.mark hg (fun z hz => by cases hz; omega)
                    clear hc hg
                    refine hK.out _ _ (by exact ⟨BmFz.cell 0, BmFz.cell 1, BmFz.cell 2, BmFz.cell 3, BmFz.cell 4⟩) (fun hHeld => ?_)
                    clear hK K
                    (try simp only [Act.put, List.getElem_toArray, List.getElem_cons_zero, List.getElem_cons_succ, List.setIfInBounds_toArray, List.set_cons_zero, List.set_cons_succ])
                    refine wpAnyH_take (i := 14) (v := ?_) rfl (by kernel_rfl) (by kernel_rfl) (by kernel_rfl) (fun _ _ _ h => h) (Or.inl ⟨by rfl, ?_⟩) (by assumption) ?_
                    rotate_left
                    · intro w hSw; (try dsimp only at hSw); go_simp; (try with_reducible rfl)
                    (try simp only [Act.put, List.getElem_toArray, List.getElem_cons_zero, List.getElem_cons_succ, List.setIfInBounds_toArray, List.set_cons_zero, List.set_cons_succ])
                    refine wpAnyH_take (i := 15) (v := ?_) rfl (by kernel_rfl) (by kernel_rfl) (by kernel_rfl) (fun _ _ _ h => h) (Or.inl ⟨by rfl, ?_⟩) (by assumption) ?_
                    rotate_left
                    · intro w hSw; (try dsimp only at hSw); go_simp; (try with_reducible rfl)
                    (try simp only [Act.put, List.getElem_toArray, List.getElem_cons_zero, List.getElem_cons_succ, List.setIfInBounds_toArray, List.set_cons_zero, List.set_cons_succ])
                    refine wpAnyH_take (i := 16) (v := .slice (some ⟨q11, 0, none⟩) n13 6) rfl (by kernel_rfl) (by kernel_rfl) (by kernel_rfl) (fun _ _ _ h => h) (Or.inl ⟨by rfl, ?_⟩) (by assumption) ?_
                    · intro w hSw; (try dsimp only at hSw); go_simp; (try simp only [hw13, he13]); (try simp); (try (intro hx; exfalso; omega))
                    (try simp only [Act.put, List.getElem_toArray, List.getElem_cons_zero, List.getElem_cons_succ, List.setIfInBounds_toArray, List.set_cons_zero, List.set_cons_succ])
                    revert hHeld; revert hx5; revert hx13; revert hw5; revert hw13; revert ht5; revert ht13; revert hqp3; revert hqp11; revert he5; revert he13; revert hb5; revert hb13; revert Iy9; revert Lit3; revert Lit11; revert gFz; revert BmFz; revert cFz; revert y9; revert x5; revert x13; revert n5; revert n13; revert m5; revert m13; revert q11; revert q3; revert wq4042
                    exact keyT415 true
                  refine AllReadyH.cons rfl (fun K hK => ?_) AllReadyH.nil
                  go_simp
                  have hal := (Below.refl wq4030.heap.size wq4030).alloc (Nat.le_refl _) (.cells #[.int .i64 10, .int .i64 20, .int .i64 4000, .int .i64 4000, .int .i64 0, .int .i64 4001] 3)
                  have hcl := cFz.lt
                  replace cFz := cFz.all hal
                  replace BmFz := BmFz.all hal
                  replace gFz := grown_trans gFz (below_grown (row := some p_) hal)
                  replace Lit11 := Lit11.all hal
                  replace Lit3 := Lit3.all hal
                  have Lit19 : Blk _ (wq4030.heap.size) _ _ := Blk.new wq4030 #[.int .i64 10, .int .i64 20, .int .i64 4000, .int .i64 4000, .int .i64 0, .int .i64 4001] 3
                  obtain ⟨q19, hq⟩ : ∃ q, wq4030.heap.size = q := ⟨_, rfl⟩
                  rw [hq] at Lit19 ⊢
                  have hqp19 : q19 ≠ p_ := by omega
                  clear hcl
                  obtain ⟨wq4043, hw⟩ : ∃ v, wq4030.alloc (.cells #[.int .i64 10, .int .i64 20, .int .i64 4000, .int .i64 4000, .int .i64 0, .int .i64 4001] 3) = v := ⟨_, rfl⟩
                  rw [hw] at cFz BmFz gFz Lit11 Lit3 Lit19 ⊢
                  clear hal hw hq
                  refine hK.out _ _ (by exact ⟨BmFz.cell 0, BmFz.cell 1, BmFz.cell 2, BmFz.cell 3, BmFz.cell 4⟩) (fun hHeld => ?_)
                  clear hK K
                  (try simp only [Act.put, List.getElem_toArray, List.getElem_cons_zero, List.getElem_cons_succ, List.setIfInBounds_toArray, List.set_cons_zero, List.set_cons_succ])
                  revert hHeld; revert hx5; revert hw5; revert ht5; revert hqp3; revert hqp19; revert hqp11; revert he5; revert hb5; revert Iy9; revert Lit3; revert Lit19; revert Lit11; revert gFz; revert BmFz; revert cFz; revert y9; revert x5; revert n5; revert m5; revert q19; revert q11; revert q3; revert wq4043
                  exact keyT413 true
              case keyT412 =>
                intro _ wq4034 q3 q19 m5 n5 x5 y9 cFz BmFz gFz Lit19 Lit3 Iy9 hb5 he5 hqp19 hqp3 ht5 hw5 hx5 hHeld
                clear hHeld
                refine wpAnyH_ready (rs := [11, 13]) (by kernel_rfl) (by simp) ?_
                refine AllReadyH.cons rfl (fun K hK => ?_) ?_
                · skip
                  go_simp
                  have hal := (Below.refl wq4034.heap.size wq4034).alloc (Nat.le_refl _) (.cells #[.int .i64 0, .int .i64 0, .int .i64 10, .int .i64 12, .int .i64 (-1), .int .i64 4001] 3)
                  have hcl := cFz.lt
                  replace cFz := cFz.all hal
                  replace BmFz := BmFz.all hal
                  replace gFz := grown_trans gFz (below_grown (row := some p_) hal)
                  replace Lit19 := Lit19.all hal
                  replace Lit3 := Lit3.all hal
                  have Lit11 : Blk _ (wq4034.heap.size) _ _ := Blk.new wq4034 #[.int .i64 0, .int .i64 0, .int .i64 10, .int .i64 12, .int .i64 (-1), .int .i64 4001] 3
                  obtain ⟨q11, hq⟩ : ∃ q, wq4034.heap.size = q := ⟨_, rfl⟩
                  rw [hq] at Lit11 ⊢
                  have hqp11 : q11 ≠ p_ := by omega
                  clear hcl
                  obtain ⟨wq4044, hw⟩ : ∃ v, wq4034.alloc (.cells #[.int .i64 0, .int .i64 0, .int .i64 10, .int .i64 12, .int .i64 (-1), .int .i64 4001] 3) = v := ⟨_, rfl⟩
                  rw [hw] at cFz BmFz gFz Lit19 Lit3 Lit11 ⊢
                  clear hal hw hq
                  refine hK.out _ _ (by exact ⟨BmFz.cell 0, BmFz.cell 1, BmFz.cell 2, BmFz.cell 3, BmFz.cell 4⟩) (fun hHeld => ?_)
                  clear hK K
                  (try simp only [Act.put, List.getElem_toArray, List.getElem_cons_zero, List.getElem_cons_succ, List.setIfInBounds_toArray, List.set_cons_zero, List.set_cons_succ])
                  revert hHeld; revert hx5; revert hw5; revert ht5; revert hqp3; revert hqp19; revert hqp11; revert he5; revert hb5; revert Iy9; revert Lit3; revert Lit19; revert Lit11; revert gFz; revert BmFz; revert cFz; revert y9; revert x5; revert n5; revert m5; revert q19; revert q11; revert q3; revert wq4044
                  exact keyT413 true
                refine AllReadyH.cons rfl (fun K hK => ?_) AllReadyH.nil
                go_simp
                refine (pick_any p_ (((0 + 100 + 10000) + 2) + 2) 24 _ cFz (by omega) (by omega) (by omega)).mono ?_
                rintro e wq4045 ⟨x13, rfl, xq13, hc, hg⟩
                obtain ⟨m13, hm⟩ : ∃ m : Nat, x13 / 11 = (m : Int) := ⟨(x13 / 11).toNat, by omega⟩
                have ht13 : Int.tdiv x13 11 = (m13 : Int) := by rw [Int.tdiv_eq_ediv_of_nonneg (by omega), hm]
                obtain ⟨n13, hn_⟩ : ∃ z : Nat, 4 + m13 = z := ⟨_, rfl⟩
                have hb13 : 4 ≤ n13 ∧ n13 ≤ 6 := by omega
                have he13 : IntKind.i64.wrap (4 + (m13 : Int)) = (n13 : Int) := by rw [IntWalk.i64_in _ (by omega)]; omega
                have hx13 : 0 ≤ x13 := by omega
                have hw13 : IntKind.i64.wrap (m13 : Int) = (m13 : Int) := IntWalk.i64_in _ (by omega)
                clear hm hn_ xq13
                clear cFz
                have cFz := hc
                replace BmFz := BmFz.mark hg (fun z hz => by cases hz; omega)
                replace gFz := grown_trans gFz hg
                replace Lit19 := Lit19.mark hg (fun z hz => by cases hz; omega)
                replace Lit3 := Lit3.mark hg (fun z hz => by cases hz; omega)
                clear hc hg
                refine hK.out _ _ (by exact ⟨BmFz.cell 0, BmFz.cell 1, BmFz.cell 2, BmFz.cell 3, BmFz.cell 4⟩) (fun hHeld => ?_)
                clear hK K
                (try simp only [Act.put, List.getElem_toArray, List.getElem_cons_zero, List.getElem_cons_succ, List.setIfInBounds_toArray, List.set_cons_zero, List.set_cons_succ])
                refine wpAnyH_take (i := 14) (v := ?_) rfl (by kernel_rfl) (by kernel_rfl) (by kernel_rfl) (fun _ _ _ h => h) (Or.inl ⟨by rfl, ?_⟩) (by assumption) ?_
                rotate_left
                · intro w hSw; (try dsimp only at hSw); go_simp; (try with_reducible rfl)
                (try simp only [Act.put, List.getElem_toArray, List.getElem_cons_zero, List.getElem_cons_succ, List.setIfInBounds_toArray, List.set_cons_zero, List.set_cons_succ])
                refine wpAnyH_take (i := 15) (v := ?_) rfl (by kernel_rfl) (by kernel_rfl) (by kernel_rfl) (fun _ _ _ h => h) (Or.inl ⟨by rfl, ?_⟩) (by assumption) ?_
                rotate_left
                · intro w hSw; (try dsimp only at hSw); go_simp; (try with_reducible rfl)
                (try simp only [Act.put, List.getElem_toArray, List.getElem_cons_zero, List.getElem_cons_succ, List.setIfInBounds_toArray, List.set_cons_zero, List.set_cons_succ])
                revert hHeld; revert hx5; revert hx13; revert hw5; revert hw13; revert ht5; revert ht13; revert hqp3; revert hqp19; revert he5; revert he13; revert hb5; revert hb13; revert Iy9; revert Lit3; revert Lit19; revert gFz; revert BmFz; revert cFz; revert y9; revert x5; revert x13; revert n5; revert n13; revert m5; revert m13; revert q19; revert q3; revert wq4045
                exact keyT414 true
            case keyT413 =>
              intro _ wq4041 q3 q11 q19 m5 n5 x5 y9 cFz BmFz gFz Lit11 Lit19 Lit3 Iy9 hb5 he5 hqp11 hqp19 hqp3 ht5 hw5 hx5 hHeld
              clear hHeld
              refine wpAnyH_ready (rs := [13]) (by kernel_rfl) (by simp) ?_
              refine AllReadyH.cons rfl (fun K hK => ?_) AllReadyH.nil
              go_simp
              refine (pick_any p_ (((0 + 100 + 10000) + 2) + 2) 24 _ cFz (by omega) (by omega) (by omega)).mono ?_
              rintro e wq4046 ⟨x13, rfl, xq13, hc, hg⟩
              obtain ⟨m13, hm⟩ : ∃ m : Nat, x13 / 11 = (m : Int) := ⟨(x13 / 11).toNat, by omega⟩
              have ht13 : Int.tdiv x13 11 = (m13 : Int) := by rw [Int.tdiv_eq_ediv_of_nonneg (by omega), hm]
              obtain ⟨n13, hn_⟩ : ∃ z : Nat, 4 + m13 = z := ⟨_, rfl⟩
              have hb13 : 4 ≤ n13 ∧ n13 ≤ 6 := by omega
              have he13 : IntKind.i64.wrap (4 + (m13 : Int)) = (n13 : Int) := by rw [IntWalk.i64_in _ (by omega)]; omega
              have hx13 : 0 ≤ x13 := by omega
              have hw13 : IntKind.i64.wrap (m13 : Int) = (m13 : Int) := IntWalk.i64_in _ (by omega)
              clear hm hn_ xq13
              clear cFz
              have cFz := hc
              replace BmFz := BmFz.mark hg (fun z hz => by cases hz; omega)
              replace gFz := grown_trans gFz hg
              replace Lit11 := Lit11.mark hg (fun z hz => by cases hz; omega)
              replace Lit19 := Lit19.mark hg (fun z hz => by cases hz; omega)
              replace Lit3 := Lit3.mark hg (fun z hz => by cases hz; omega)
              clear hc hg
              refine hK.out _ _ (by exact ⟨BmFz.cell 0, BmFz.cell 1, BmFz.cell 2, BmFz.cell 3, BmFz.cell 4⟩) (fun hHeld => ?_)
              clear hK K
              (try simp only [Act.put, List.getElem_toArray, List.getElem_cons_zero, List.getElem_cons_succ, List.setIfInBounds_toArray, List.set_cons_zero, List.set_cons_succ])
              refine wpAnyH_take (i := 14) (v := ?_) rfl (by kernel_rfl) (by kernel_rfl) (by kernel_rfl) (fun _ _ _ h => h) (Or.inl ⟨by rfl, ?_⟩) (by assumption) ?_
              rotate_left
              · intro w hSw; (try dsimp only at hSw); go_simp; (try with_reducible rfl)
              (try simp only [Act.put, List.getElem_toArray, List.getElem_cons_zero, List.getElem_cons_succ, List.setIfInBounds_toArray, List.set_cons_zero, List.set_cons_succ])
              refine wpAnyH_take (i := 15) (v := ?_) rfl (by kernel_rfl) (by kernel_rfl) (by kernel_rfl) (fun _ _ _ h => h) (Or.inl ⟨by rfl, ?_⟩) (by assumption) ?_
              rotate_left
              · intro w hSw; (try dsimp only at hSw); go_simp; (try with_reducible rfl)
              (try simp only [Act.put, List.getElem_toArray, List.getElem_cons_zero, List.getElem_cons_succ, List.setIfInBounds_toArray, List.set_cons_zero, List.set_cons_succ])
              refine wpAnyH_take (i := 16) (v := .slice (some ⟨q11, 0, none⟩) n13 6) rfl (by kernel_rfl) (by kernel_rfl) (by kernel_rfl) (fun _ _ _ h => h) (Or.inl ⟨by rfl, ?_⟩) (by assumption) ?_
              · intro w hSw; (try dsimp only at hSw); go_simp; (try simp only [hw13, he13]); (try simp); (try (intro hx; exfalso; omega))
              (try simp only [Act.put, List.getElem_toArray, List.getElem_cons_zero, List.getElem_cons_succ, List.setIfInBounds_toArray, List.set_cons_zero, List.set_cons_succ])
              revert hHeld; revert hx5; revert hx13; revert hw5; revert hw13; revert ht5; revert ht13; revert hqp3; revert hqp19; revert hqp11; revert he5; revert he13; revert hb5; revert hb13; revert Iy9; revert Lit3; revert Lit19; revert Lit11; revert gFz; revert BmFz; revert cFz; revert y9; revert x5; revert x13; revert n5; revert n13; revert m5; revert m13; revert q19; revert q11; revert q3; revert wq4046
              exact keyT416 true
          case keyT414 =>
            intro _ wq4033 q3 q19 m13 m5 n13 n5 x13 x5 y9 cFz BmFz gFz Lit19 Lit3 Iy9 hb13 hb5 he13 he5 hqp19 hqp3 ht13 ht5 hw13 hw5 hx13 hx5 hHeld
            clear hHeld
            refine wpAnyH_ready (rs := [11]) (by kernel_rfl) (by simp) ?_
            refine AllReadyH.cons rfl (fun K hK => ?_) AllReadyH.nil
            go_simp
            have hal := (Below.refl wq4033.heap.size wq4033).alloc (Nat.le_refl _) (.cells #[.int .i64 0, .int .i64 0, .int .i64 10, .int .i64 12, .int .i64 (-1), .int .i64 4001] 3)
            have hcl := cFz.lt
            replace cFz := cFz.all hal
            replace BmFz := BmFz.all hal
            replace gFz := grown_trans gFz (below_grown (row := some p_) hal)
            replace Lit19 := Lit19.all hal
            replace Lit3 := Lit3.all hal
            have Lit11 : Blk _ (wq4033.heap.size) _ _ := Blk.new wq4033 #[.int .i64 0, .int .i64 0, .int .i64 10, .int .i64 12, .int .i64 (-1), .int .i64 4001] 3
            obtain ⟨q11, hq⟩ : ∃ q, wq4033.heap.size = q := ⟨_, rfl⟩
            rw [hq] at Lit11 ⊢
            have hqp11 : q11 ≠ p_ := by omega
            clear hcl
            obtain ⟨wq4047, hw⟩ : ∃ v, wq4033.alloc (.cells #[.int .i64 0, .int .i64 0, .int .i64 10, .int .i64 12, .int .i64 (-1), .int .i64 4001] 3) = v := ⟨_, rfl⟩
            rw [hw] at cFz BmFz gFz Lit19 Lit3 Lit11 ⊢
            clear hal hw hq
            refine hK.out _ _ (by exact ⟨BmFz.cell 0, BmFz.cell 1, BmFz.cell 2, BmFz.cell 3, BmFz.cell 4⟩) (fun hHeld => ?_)
            clear hK K
            (try simp only [Act.put, List.getElem_toArray, List.getElem_cons_zero, List.getElem_cons_succ, List.setIfInBounds_toArray, List.set_cons_zero, List.set_cons_succ])
            refine wpAnyH_take (i := 16) (v := .slice (some ⟨q11, 0, none⟩) n13 6) rfl (by kernel_rfl) (by kernel_rfl) (by kernel_rfl) (fun _ _ _ h => h) (Or.inl ⟨by rfl, ?_⟩) (by assumption) ?_
            · intro w hSw; (try dsimp only at hSw); go_simp; (try simp only [hw13, he13]); (try simp); (try (intro hx; exfalso; omega))
            (try simp only [Act.put, List.getElem_toArray, List.getElem_cons_zero, List.getElem_cons_succ, List.setIfInBounds_toArray, List.set_cons_zero, List.set_cons_succ])
            revert hHeld; revert hx5; revert hx13; revert hw5; revert hw13; revert ht5; revert ht13; revert hqp3; revert hqp19; revert hqp11; revert he5; revert he13; revert hb5; revert hb13; revert Iy9; revert Lit3; revert Lit19; revert Lit11; revert gFz; revert BmFz; revert cFz; revert y9; revert x5; revert x13; revert n5; revert n13; revert m5; revert m13; revert q19; revert q11; revert q3; revert wq4047
            exact keyT416 true
        case keyT415 =>
          intro _ wq4032 q3 q11 m13 m5 n13 n5 x13 x5 y9 cFz BmFz gFz Lit11 Lit3 Iy9 hb13 hb5 he13 he5 hqp11 hqp3 ht13 ht5 hw13 hw5 hx13 hx5 hHeld
          clear hHeld
          refine wpAnyH_ready (rs := [17, 19]) (by kernel_rfl) (by simp) ?_
          refine AllReadyH.cons rfl (fun K hK => ?_) ?_
          · skip
            go_simp
            refine (among_head p_ ((((0 + 100 + 10000) + 2) + 2) + 2) q11 6 n13 _ [0, 0, 10, 12, -1, 4001] _ cFz (by omega) (rd5 (xs := [0, 0, 10, 12, -1, 4001]) Lit11 (i64_litb (by decide)) (by decide)) (by omega) (by omega) (by omega) (by omega)).mono ?_
            rintro e wq4048 ⟨y17, rfl, hy17, hc, hg⟩
            have Iy17 := i64_litb (l := [0, 0, 10, 12, -1, 4001]) (by decide) y17 hy17
            clear hy17
            clear cFz
            have cFz := hc
            replace BmFz := BmFz.mark hg (fun z hz => by cases hz; omega)
            replace gFz := grown_trans gFz hg
            replace Lit11 := Lit11.mark hg (fun z hz => by cases hz; omega)
            replace Lit3 := Lit3.mark hg (fun z hz => by cases hz; omega)
            clear hc hg
            refine hK.out _ _ (by exact ⟨BmFz.cell 0, BmFz.cell 1, BmFz.cell 2, BmFz.cell 3, BmFz.cell 4⟩) (fun hHeld => ?_)
            clear hK K
            (try simp only [Act.put, List.getElem_toArray, List.getElem_cons_zero, List.getElem_cons_succ, List.setIfInBounds_toArray, List.set_cons_zero, List.set_cons_succ])
            clear hHeld
            refine wpAnyH_ready (rs := [19, 21]) (by kernel_rfl) (by simp) ?_
            refine AllReadyH.cons rfl (fun K hK => ?_) ?_
            · skip
              go_simp
              have hal := (Below.refl wq4048.heap.size wq4048).alloc (Nat.le_refl _) (.cells #[.int .i64 10, .int .i64 20, .int .i64 4000, .int .i64 4000, .int .i64 0, .int .i64 4001] 3)
              have hcl := cFz.lt
              replace cFz := cFz.all hal
              replace BmFz := BmFz.all hal
              replace gFz := grown_trans gFz (below_grown (row := some p_) hal)
              replace Lit11 := Lit11.all hal
              replace Lit3 := Lit3.all hal
              have Lit19 : Blk _ (wq4048.heap.size) _ _ := Blk.new wq4048 #[.int .i64 10, .int .i64 20, .int .i64 4000, .int .i64 4000, .int .i64 0, .int .i64 4001] 3
              obtain ⟨q19, hq⟩ : ∃ q, wq4048.heap.size = q := ⟨_, rfl⟩
              rw [hq] at Lit19 ⊢
              have hqp19 : q19 ≠ p_ := by omega
              clear hcl
              obtain ⟨wq4049, hw⟩ : ∃ v, wq4048.alloc (.cells #[.int .i64 10, .int .i64 20, .int .i64 4000, .int .i64 4000, .int .i64 0, .int .i64 4001] 3) = v := ⟨_, rfl⟩
              rw [hw] at cFz BmFz gFz Lit11 Lit3 Lit19 ⊢
              clear hal hw hq
              refine hK.out _ _ (by exact ⟨BmFz.cell 0, BmFz.cell 1, BmFz.cell 2, BmFz.cell 3, BmFz.cell 4⟩) (fun hHeld => ?_)
              clear hK K
              (try simp only [Act.put, List.getElem_toArray, List.getElem_cons_zero, List.getElem_cons_succ, List.setIfInBounds_toArray, List.set_cons_zero, List.set_cons_succ])
              revert hHeld; revert hx5; revert hx13; revert hw5; revert hw13; revert ht5; revert ht13; revert hqp3; revert hqp19; revert hqp11; revert he5; revert he13; revert hb5; revert hb13; revert Iy9; revert Iy17; revert Lit3; revert Lit19; revert Lit11; revert gFz; revert BmFz; revert cFz; revert y9; revert y17; revert x5; revert x13; revert n5; revert n13; revert m5; revert m13; revert q19; revert q11; revert q3; revert wq4049
              exact keyT417 true
            refine AllReadyH.cons rfl (fun K hK => ?_) AllReadyH.nil
            go_simp
            refine (pick_any p_ (((((0 + 100 + 10000) + 2) + 2) + 2) + 2) 24 _ cFz (by omega) (by omega) (by omega)).mono ?_
            rintro e wq4050 ⟨x21, rfl, xq21, hc, hg⟩
            obtain ⟨m21, hm⟩ : ∃ m : Nat, x21 / 23 = (m : Int) := ⟨(x21 / 23).toNat, by omega⟩
            have ht21 : Int.tdiv x21 23 = (m21 : Int) := by rw [Int.tdiv_eq_ediv_of_nonneg (by omega), hm]
            obtain ⟨n21, hn_⟩ : ∃ z : Nat, 5 + m21 = z := ⟨_, rfl⟩
            have hb21 : 5 ≤ n21 ∧ n21 ≤ 6 := by omega
            have he21 : IntKind.i64.wrap (5 + (m21 : Int)) = (n21 : Int) := by rw [IntWalk.i64_in _ (by omega)]; omega
            have hx21 : 0 ≤ x21 := by omega
            have hw21 : IntKind.i64.wrap (m21 : Int) = (m21 : Int) := IntWalk.i64_in _ (by omega)
            clear hm hn_ xq21
            clear cFz
            have cFz := hc
            replace BmFz := BmFz.mark hg (fun z hz => by cases hz; omega)
            replace gFz := grown_trans gFz hg
            replace Lit11 := Lit11.mark hg (fun z hz => by cases hz; omega)
            replace Lit3 := Lit3.mark hg (fun z hz => by cases hz; omega)
            clear hc hg
            refine hK.out _ _ (by exact ⟨BmFz.cell 0, BmFz.cell 1, BmFz.cell 2, BmFz.cell 3, BmFz.cell 4⟩) (fun hHeld => ?_)
            clear hK K
            (try simp only [Act.put, List.getElem_toArray, List.getElem_cons_zero, List.getElem_cons_succ, List.setIfInBounds_toArray, List.set_cons_zero, List.set_cons_succ])
            refine wpAnyH_take (i := 22) (v := ?_) rfl (by kernel_rfl) (by kernel_rfl) (by kernel_rfl) (fun _ _ _ h => h) (Or.inl ⟨by rfl, ?_⟩) (by assumption) ?_
            rotate_left
            · intro w hSw; (try dsimp only at hSw); go_simp; (try with_reducible rfl)
            (try simp only [Act.put, List.getElem_toArray, List.getElem_cons_zero, List.getElem_cons_succ, List.setIfInBounds_toArray, List.set_cons_zero, List.set_cons_succ])
            refine wpAnyH_take (i := 23) (v := ?_) rfl (by kernel_rfl) (by kernel_rfl) (by kernel_rfl) (fun _ _ _ h => h) (Or.inl ⟨by rfl, ?_⟩) (by assumption) ?_
            rotate_left
            · intro w hSw; (try dsimp only at hSw); go_simp; (try with_reducible rfl)
            (try simp only [Act.put, List.getElem_toArray, List.getElem_cons_zero, List.getElem_cons_succ, List.setIfInBounds_toArray, List.set_cons_zero, List.set_cons_succ])
            clear hHeld
            refine wpAnyH_ready (rs := [19]) (by kernel_rfl) (by simp) ?_
            refine AllReadyH.cons rfl (fun K hK => ?_) AllReadyH.nil
            go_simp
            have hal := (Below.refl wq4050.heap.size wq4050).alloc (Nat.le_refl _) (.cells #[.int .i64 10, .int .i64 20, .int .i64 4000, .int .i64 4000, .int .i64 0, .int .i64 4001] 3)
            have hcl := cFz.lt
            replace cFz := cFz.all hal
            replace BmFz := BmFz.all hal
            replace gFz := grown_trans gFz (below_grown (row := some p_) hal)
            replace Lit11 := Lit11.all hal
            replace Lit3 := Lit3.all hal
            have Lit19 : Blk _ (wq4050.heap.size) _ _ := Blk.new wq4050 #[.int .i64 10, .int .i64 20, .int .i64 4000, .int .i64 4000, .int .i64 0, .int .i64 4001] 3
            obtain ⟨q19, hq⟩ : ∃ q, wq4050.heap.size = q := ⟨_, rfl⟩
            rw [hq] at Lit19 ⊢
            have hqp19 : q19 ≠ p_ := by omega
            clear hcl
            obtain ⟨wq4051, hw⟩ : ∃ v, wq4050.alloc (.cells #[.int .i64 10, .int .i64 20, .int .i64 4000, .int .i64 4000, .int .i64 0, .int .i64 4001] 3) = v := ⟨_, rfl⟩
            rw [hw] at cFz BmFz gFz Lit11 Lit3 Lit19 ⊢
            clear hal hw hq
            refine hK.out _ _ (by exact ⟨BmFz.cell 0, BmFz.cell 1, BmFz.cell 2, BmFz.cell 3, BmFz.cell 4⟩) (fun hHeld => ?_)
            clear hK K
            (try simp only [Act.put, List.getElem_toArray, List.getElem_cons_zero, List.getElem_cons_succ, List.setIfInBounds_toArray, List.set_cons_zero, List.set_cons_succ])
            refine wpAnyH_take (i := 24) (v := .slice (some ⟨q19, 0, none⟩) n21 6) rfl (by kernel_rfl) (by kernel_rfl) (by kernel_rfl) (fun _ _ _ h => h) (Or.inl ⟨by rfl, ?_⟩) (by assumption) ?_
            · intro w hSw; (try dsimp only at hSw); go_simp; (try simp only [hw21, he21]); (try simp); (try (intro hx; exfalso; omega))
            (try simp only [Act.put, List.getElem_toArray, List.getElem_cons_zero, List.getElem_cons_succ, List.setIfInBounds_toArray, List.set_cons_zero, List.set_cons_succ])
            revert hHeld; revert hx5; revert hx21; revert hx13; revert hw5; revert hw21; revert hw13; revert ht5; revert ht21; revert ht13; revert hqp3; revert hqp19; revert hqp11; revert he5; revert he21; revert he13; revert hb5; revert hb21; revert hb13; revert Iy9; revert Iy17; revert Lit3; revert Lit19; revert Lit11; revert gFz; revert BmFz; revert cFz; revert y9; revert y17; revert x5; revert x21; revert x13; revert n5; revert n21; revert n13; revert m5; revert m21; revert m13; revert q19; revert q11; revert q3; revert wq4051
            exact keyT418 true
          refine AllReadyH.cons rfl (fun K hK => ?_) AllReadyH.nil
          go_simp
          have hal := (Below.refl wq4032.heap.size wq4032).alloc (Nat.le_refl _) (.cells #[.int .i64 10, .int .i64 20, .int .i64 4000, .int .i64 4000, .int .i64 0, .int .i64 4001] 3)
          have hcl := cFz.lt
          replace cFz := cFz.all hal
          replace BmFz := BmFz.all hal
          replace gFz := grown_trans gFz (below_grown (row := some p_) hal)
          replace Lit11 := Lit11.all hal
          replace Lit3 := Lit3.all hal
          have Lit19 : Blk _ (wq4032.heap.size) _ _ := Blk.new wq4032 #[.int .i64 10, .int .i64 20, .int .i64 4000, .int .i64 4000, .int .i64 0, .int .i64 4001] 3
          obtain ⟨q19, hq⟩ : ∃ q, wq4032.heap.size = q := ⟨_, rfl⟩
          rw [hq] at Lit19 ⊢
          have hqp19 : q19 ≠ p_ := by omega
          clear hcl
          obtain ⟨wq4052, hw⟩ : ∃ v, wq4032.alloc (.cells #[.int .i64 10, .int .i64 20, .int .i64 4000, .int .i64 4000, .int .i64 0, .int .i64 4001] 3) = v := ⟨_, rfl⟩
          rw [hw] at cFz BmFz gFz Lit11 Lit3 Lit19 ⊢
          clear hal hw hq
          refine hK.out _ _ (by exact ⟨BmFz.cell 0, BmFz.cell 1, BmFz.cell 2, BmFz.cell 3, BmFz.cell 4⟩) (fun hHeld => ?_)
          clear hK K
          (try simp only [Act.put, List.getElem_toArray, List.getElem_cons_zero, List.getElem_cons_succ, List.setIfInBounds_toArray, List.set_cons_zero, List.set_cons_succ])
          revert hHeld; revert hx5; revert hx13; revert hw5; revert hw13; revert ht5; revert ht13; revert hqp3; revert hqp19; revert hqp11; revert he5; revert he13; revert hb5; revert hb13; revert Iy9; revert Lit3; revert Lit19; revert Lit11; revert gFz; revert BmFz; revert cFz; revert y9; revert x5; revert x13; revert n5; revert n13; revert m5; revert m13; revert q19; revert q11; revert q3; revert wq4052
          exact keyT416 true
      case keyT416 =>
        intro _ wq4046 q3 q11 q19 m13 m5 n13 n5 x13 x5 y9 cFz BmFz gFz Lit11 Lit19 Lit3 Iy9 hb13 hb5 he13 he5 hqp11 hqp19 hqp3 ht13 ht5 hw13 hw5 hx13 hx5 hHeld
        clear hHeld
        refine wpAnyH_ready (rs := [17]) (by kernel_rfl) (by simp) ?_
        refine AllReadyH.cons rfl (fun K hK => ?_) AllReadyH.nil
        go_simp
        refine (among_head p_ ((((0 + 100 + 10000) + 2) + 2) + 2) q11 6 n13 _ [0, 0, 10, 12, -1, 4001] _ cFz (by omega) (rd5 (xs := [0, 0, 10, 12, -1, 4001]) Lit11 (i64_litb (by decide)) (by decide)) (by omega) (by omega) (by omega) (by omega)).mono ?_
        rintro e wq4053 ⟨y17, rfl, hy17, hc, hg⟩
        have Iy17 := i64_litb (l := [0, 0, 10, 12, -1, 4001]) (by decide) y17 hy17
        clear hy17
        clear cFz
        have cFz := hc
        replace BmFz := BmFz.mark hg (fun z hz => by cases hz; omega)
        replace gFz := grown_trans gFz hg
        replace Lit11 := Lit11.mark hg (fun z hz => by cases hz; omega)
        replace Lit19 := Lit19.mark hg (fun z hz => by cases hz; omega)
        replace Lit3 := Lit3.mark hg (fun z hz => by cases hz; omega)
        clear hc hg
        refine hK.out _ _ (by exact ⟨BmFz.cell 0, BmFz.cell 1, BmFz.cell 2, BmFz.cell 3, BmFz.cell 4⟩) (fun hHeld => ?_)
        clear hK K
        (try simp only [Act.put, List.getElem_toArray, List.getElem_cons_zero, List.getElem_cons_succ, List.setIfInBounds_toArray, List.set_cons_zero, List.set_cons_succ])
        revert hHeld; revert hx5; revert hx13; revert hw5; revert hw13; revert ht5; revert ht13; revert hqp3; revert hqp19; revert hqp11; revert he5; revert he13; revert hb5; revert hb13; revert Iy9; revert Iy17; revert Lit3; revert Lit19; revert Lit11; revert gFz; revert BmFz; revert cFz; revert y9; revert y17; revert x5; revert x13; revert n5; revert n13; revert m5; revert m13; revert q19; revert q11; revert q3; revert wq4053
        exact keyT417 true
    case keyT417 =>
      intro _ wq4049 q3 q11 q19 m13 m5 n13 n5 x13 x5 y17 y9 cFz BmFz gFz Lit11 Lit19 Lit3 Iy17 Iy9 hb13 hb5 he13 he5 hqp11 hqp19 hqp3 ht13 ht5 hw13 hw5 hx13 hx5 hHeld
      clear hHeld
      refine wpAnyH_ready (rs := [21]) (by kernel_rfl) (by simp) ?_
      refine AllReadyH.cons rfl (fun K hK => ?_) AllReadyH.nil
      go_simp
      refine (pick_any p_ (((((0 + 100 + 10000) + 2) + 2) + 2) + 2) 24 _ cFz (by omega) (by omega) (by omega)).mono ?_
      rintro e wq4054 ⟨x21, rfl, xq21, hc, hg⟩
      obtain ⟨m21, hm⟩ : ∃ m : Nat, x21 / 23 = (m : Int) := ⟨(x21 / 23).toNat, by omega⟩
      have ht21 : Int.tdiv x21 23 = (m21 : Int) := by rw [Int.tdiv_eq_ediv_of_nonneg (by omega), hm]
      obtain ⟨n21, hn_⟩ : ∃ z : Nat, 5 + m21 = z := ⟨_, rfl⟩
      have hb21 : 5 ≤ n21 ∧ n21 ≤ 6 := by omega
      have he21 : IntKind.i64.wrap (5 + (m21 : Int)) = (n21 : Int) := by rw [IntWalk.i64_in _ (by omega)]; omega
      have hx21 : 0 ≤ x21 := by omega
      have hw21 : IntKind.i64.wrap (m21 : Int) = (m21 : Int) := IntWalk.i64_in _ (by omega)
      clear hm hn_ xq21
      clear cFz
      have cFz := hc
      replace BmFz := BmFz.mark hg (fun z hz => by cases hz; omega)
      replace gFz := grown_trans gFz hg
      replace Lit11 := Lit11.mark hg (fun z hz => by cases hz; omega)
      replace Lit19 := Lit19.mark hg (fun z hz => by cases hz; omega)
      replace Lit3 := Lit3.mark hg (fun z hz => by cases hz; omega)
      clear hc hg
      refine hK.out _ _ (by exact ⟨BmFz.cell 0, BmFz.cell 1, BmFz.cell 2, BmFz.cell 3, BmFz.cell 4⟩) (fun hHeld => ?_)
      clear hK K
      (try simp only [Act.put, List.getElem_toArray, List.getElem_cons_zero, List.getElem_cons_succ, List.setIfInBounds_toArray, List.set_cons_zero, List.set_cons_succ])
      refine wpAnyH_take (i := 22) (v := ?_) rfl (by kernel_rfl) (by kernel_rfl) (by kernel_rfl) (fun _ _ _ h => h) (Or.inl ⟨by rfl, ?_⟩) (by assumption) ?_
      rotate_left
      · intro w hSw; (try dsimp only at hSw); go_simp; (try with_reducible rfl)
      (try simp only [Act.put, List.getElem_toArray, List.getElem_cons_zero, List.getElem_cons_succ, List.setIfInBounds_toArray, List.set_cons_zero, List.set_cons_succ])
      refine wpAnyH_take (i := 23) (v := ?_) rfl (by kernel_rfl) (by kernel_rfl) (by kernel_rfl) (fun _ _ _ h => h) (Or.inl ⟨by rfl, ?_⟩) (by assumption) ?_
      rotate_left
      · intro w hSw; (try dsimp only at hSw); go_simp; (try with_reducible rfl)
      (try simp only [Act.put, List.getElem_toArray, List.getElem_cons_zero, List.getElem_cons_succ, List.setIfInBounds_toArray, List.set_cons_zero, List.set_cons_succ])
      refine wpAnyH_take (i := 24) (v := .slice (some ⟨q19, 0, none⟩) n21 6) rfl (by kernel_rfl) (by kernel_rfl) (by kernel_rfl) (fun _ _ _ h => h) (Or.inl ⟨by rfl, ?_⟩) (by assumption) ?_
      · intro w hSw; (try dsimp only at hSw); go_simp; (try simp only [hw21, he21]); (try simp); (try (intro hx; exfalso; omega))
      (try simp only [Act.put, List.getElem_toArray, List.getElem_cons_zero, List.getElem_cons_succ, List.setIfInBounds_toArray, List.set_cons_zero, List.set_cons_succ])
      revert hHeld; revert hx5; revert hx21; revert hx13; revert hw5; revert hw21; revert hw13; revert ht5; revert ht21; revert ht13; revert hqp3; revert hqp19; revert hqp11; revert he5; revert he21; revert he13; revert hb5; revert hb21; revert hb13; revert Iy9; revert Iy17; revert Lit3; revert Lit19; revert Lit11; revert gFz; revert BmFz; revert cFz; revert y9; revert y17; revert x5; revert x21; revert x13; revert n5; revert n21; revert n13; revert m5; revert m21; revert m13; revert q19; revert q11; revert q3; revert wq4054
      exact keyT418 true
  case keyT418 =>
    intro _ wq4051 q3 q11 q19 m13 m21 m5 n13 n21 n5 x13 x21 x5 y17 y9 cFz BmFz gFz Lit11 Lit19 Lit3 Iy17 Iy9 hb13 hb21 hb5 he13 he21 he5 hqp11 hqp19 hqp3 ht13 ht21 ht5 hw13 hw21 hw5 hx13 hx21 hx5 hHeld
    clear hHeld
    refine wpAnyH_ready (rs := [25]) (by kernel_rfl) (by simp) ?_
    refine AllReadyH.cons rfl (fun K hK => ?_) AllReadyH.nil
    go_simp
    refine (among_head p_ ((((((0 + 100 + 10000) + 2) + 2) + 2) + 2) + 2) q19 6 n21 _ [10, 20, 4000, 4000, 0, 4001] _ cFz (by omega) (rd5 (xs := [10, 20, 4000, 4000, 0, 4001]) Lit19 (i64_litb (by decide)) (by decide)) (by omega) (by omega) (by omega) (by omega)).mono ?_
    rintro e wq4055 ⟨y25, rfl, hy25, hc, hg⟩
    have Iy25 := i64_litb (l := [10, 20, 4000, 4000, 0, 4001]) (by decide) y25 hy25
    clear hy25
    clear cFz
    have cFz := hc
    replace BmFz := BmFz.mark hg (fun z hz => by cases hz; omega)
    replace gFz := grown_trans gFz hg
    replace Lit11 := Lit11.mark hg (fun z hz => by cases hz; omega)
    replace Lit19 := Lit19.mark hg (fun z hz => by cases hz; omega)
    replace Lit3 := Lit3.mark hg (fun z hz => by cases hz; omega)
    clear hc hg
    refine hK.out _ _ (by exact ⟨BmFz.cell 0, BmFz.cell 1, BmFz.cell 2, BmFz.cell 3, BmFz.cell 4⟩) (fun hHeld => ?_)
    clear hK K
    (try simp only [Act.put, List.getElem_toArray, List.getElem_cons_zero, List.getElem_cons_succ, List.setIfInBounds_toArray, List.set_cons_zero, List.set_cons_succ])
    clear hHeld
    refine wpAnyH_ready (rs := [26]) (by kernel_rfl) (by simp) ?_
    refine AllReadyH.cons rfl (fun K hK => ?_) AllReadyH.nil
    have R0s := R0.mark gFz (fun z hz => by cases hz; omega)
    have OXs := OX.mark gFz (fun z z' hz hz' => by cases hz; exact fun e => hne z' hz' e.symm)
    have HBs := HB.trans (grown_below (B := w.heap.size) gFz (by omega) HB.size)
    have hcur := (show True from trivial)
    have g0 := R0s.cell 0
    have g1 := R0s.cell 1
    have g2 := R0s.cell 2
    have g3 := R0s.cell 3
    have g4 := R0s.cell 4
    have z0 := R0s.frozen 0
    have z1 := R0s.frozen 1
    have z2 := R0s.frozen 2
    have z3 := R0s.frozen 3
    have z4 := R0s.frozen 4
    have R0t := set5_blk (a := (.int .i64 s.f0)) (b := (.int .i64 s.f1)) (c := (.int .i64 s.f2)) (d := (.int .i64 s.f3)) (e := (.int .i64 s.f4)) R0s
    have OXt := own5 (p := w.heap.size) (a := (.int .i64 s.f0)) (b := (.int .i64 s.f1)) (c := (.int .i64 s.f2)) (d := (.int .i64 s.f3)) (e := (.int .i64 s.f4)) OXs (by omega)
    have HBt := below5 (p := w.heap.size) (a := (.int .i64 s.f0)) (b := (.int .i64 s.f1)) (c := (.int .i64 s.f2)) (d := (.int .i64 s.f3)) (e := (.int .i64 s.f4)) HBs (by omega)
    have BmT := far5_blk (p := w.heap.size) (a := (.int .i64 s.f0)) (b := (.int .i64 s.f1)) (c := (.int .i64 s.f2)) (d := (.int .i64 s.f3)) (e := (.int .i64 s.f4)) BmFz (by omega)
    go_simp
    obtain ⟨ws4056, hws⟩ : ∃ v, (((((wq4055.setCell ⟨w.heap.size, 0, none⟩ (.int .i64 s.f0)).setCell ⟨w.heap.size, 1, none⟩ (.int .i64 s.f1)).setCell ⟨w.heap.size, 2, none⟩ (.int .i64 s.f2)).setCell ⟨w.heap.size, 3, none⟩ (.int .i64 s.f3)).setCell ⟨w.heap.size, 4, none⟩ (.int .i64 s.f4)) = v := ⟨_, rfl⟩
    rw [hws] at R0t OXt HBt BmT ⊢
    clear hws g0 g1 g2 g3 g4 z0 z1 z2 z3 z4 R0s OXs HBs
    have R0s := R0t
    have OXs := OXt
    have HBs := HBt
    clear R0t OXt HBt
    refine hK.out _ _ (by exact ⟨BmT.cell 0, BmT.cell 1, BmT.cell 2, BmT.cell 3, BmT.cell 4⟩) (fun hHeld => ?_)
    clear hK K
    (try simp only [Act.put, List.getElem_toArray, List.getElem_cons_zero, List.getElem_cons_succ, List.setIfInBounds_toArray, List.set_cons_zero, List.set_cons_succ])
    refine wpAnyH_take (i := 27) (v := ?_) rfl (by kernel_rfl) (by kernel_rfl) (by kernel_rfl) (fun _ _ _ h => h) (Or.inl ⟨by rfl, ?_⟩) (by assumption) ?_
    rotate_left
    · intro w hSw; (try dsimp only at hSw); go_simp; (try with_reducible rfl)
    (try simp only [Act.put, List.getElem_toArray, List.getElem_cons_zero, List.getElem_cons_succ, List.setIfInBounds_toArray, List.set_cons_zero, List.set_cons_succ])
    refine wpAnyH_take (i := 28) (v := ?_) rfl (by kernel_rfl) (by kernel_rfl) (by kernel_rfl) (fun _ _ _ h => h) (Or.inl ⟨by rfl, ?_⟩) (by assumption) ?_
    rotate_left
    · intro w hSw; (try dsimp only at hSw); go_simp; (try with_reducible rfl)
    (try simp only [Act.put, List.getElem_toArray, List.getElem_cons_zero, List.getElem_cons_succ, List.setIfInBounds_toArray, List.set_cons_zero, List.set_cons_succ])
    refine wpAnyH_take (i := 29) (v := ?_) rfl (by kernel_rfl) (by kernel_rfl) (by kernel_rfl) (fun _ _ _ h => h) (Or.inl ⟨by rfl, ?_⟩) (by assumption) ?_
    rotate_left
    · intro w hSw; (try dsimp only at hSw); go_simp; (try with_reducible rfl)
    (try simp only [Act.put, List.getElem_toArray, List.getElem_cons_zero, List.getElem_cons_succ, List.setIfInBounds_toArray, List.set_cons_zero, List.set_cons_succ])
    refine wpAnyH_take (i := 30) (v := ?_) rfl (by kernel_rfl) (by kernel_rfl) (by kernel_rfl) (fun _ _ _ h => h) (Or.inl ⟨by rfl, ?_⟩) (by assumption) ?_
    rotate_left
    · intro w hSw; (try dsimp only at hSw); go_simp; (try with_reducible rfl)
    (try simp only [Act.put, List.getElem_toArray, List.getElem_cons_zero, List.getElem_cons_succ, List.setIfInBounds_toArray, List.set_cons_zero, List.set_cons_succ])
    refine wpAnyH_done (by kernel_rfl) ?_ _
    refine NoPanic.normal ?_
    have g00 := R0s.cell 0
    have g01 := R0s.cell 1
    have g02 := R0s.cell 2
    have g03 := R0s.cell 3
    have g04 := R0s.cell 4
    go_wp2
    exact bodyPost_ret (v := .tuple #[.agg #[.int .i64 s.f0, .int .i64 s.f1, .int .i64 s.f2, .int .i64 s.f3, .int .i64 s.f4], .slice A8 xs.length c8, .int .i64 y9, .int .i64 y17, .int .i64 y25]) (by first | (simp [results, Try.results15, go_sem, g00, g01, g02, g03, g04]; done) | simp [results, Try.results15, go_sem, *]) rfl ⟨s, A8, c8, xs, y9, y17, y25, rfl, hs, hxl, Iy9, Iy17, Iy25, OXs.mono (by omega), HBs⟩
end Go.Proofs.Ytihhlldpdfihfaa
