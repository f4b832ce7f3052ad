/- The draws of chapter 12's functions: charts, with a color, with an area, with both. Condition: at most 65536 bytes. -/
import Derived.Test.YtgahompcejbjoaaDraws12
namespace Go.Proofs.Ytgahompcejbjoaa
open Go.RowKit

def GaveCI (w : World) (e : Ending) (w' : World) : Prop := ∃ (W H : Int) (A : Option Addr) (c : Nat) (xs : List Int) (f : Int), e = .returned (.tuple #[chartV W H (.slice A xs.length c), .int .i64 f]) ∧ Small W H xs ∧ I64 f ∧ Own w' w.heap.size (.slice A xs.length c) xs ∧ Below w.heap.size w w'
theorem grown_drew' {w w' : World} {row : Option Nat} (h : w.drew.grownBy w' row) : w.grownBy w' row := ⟨h.os, h.tape, h.output, h.size, h.block⟩
theorem cells_mark {w w' : World} {p b j : Nat} {v : Value} (h : w.cell? ⟨b, j, none⟩ = some v) (hg : w.grownBy w' (some p)) (hne : b ≠ p) : w'.cell? ⟨b, j, none⟩ = some v :=
  hg.cell (a := ⟨b, j, none⟩) h (fun e => hne (by injection e))
set_option maxRecDepth 100000 in
set_option maxHeartbeats 4000000 in
theorem drawIsChart_any (A : Option Addr) (n c B : Nat) (w : World) (h : RdB w B A n c) (hB : B ≤ w.heap.size) (hn : n ≤ 65536) : Calls Try.prog 24 #[.slice A n c] w (GaveChart w) := by
  have r0 := (Blk.new w #[.int .i64 0, .int .i64 0, .slice none 0 0] 26).alloc (.cells #[.slice A n c, .int .i64 0, .int .u64 0] 55)
  have hc0 : Cur ((w.alloc (.cells #[.int .i64 0, .int .i64 0, .slice none 0 0] 26)).alloc (.cells #[.slice A n c, .int .i64 0, .int .u64 0] 55)) (w.heap.size + 1) 0 := by
    have := cur_new (h.alloc hB (.cells #[.int .i64 0, .int .i64 0, .slice none 0 0] 26)) (by simp; omega) hn
    simpa using this
  have HB : Below w.heap.size w ((w.alloc (.cells #[.int .i64 0, .int .i64 0, .slice none 0 0] 26)).alloc (.cells #[.slice A n c, .int .i64 0, .int .u64 0] 55)) := ((Below.refl _ _).alloc (Nat.le_refl _) _).alloc (by simp) _
  clear h
  go_enter Try.func24, Try.ntmps24
  go_wp2_with fail
  refine (chart_any (w.heap.size + 1) 0 _ hc0 (by omega)).mono ?_
  rintro e w1 ⟨W, H, A1, c1, xs, rfl, hsm, own, hc1, hg1⟩
  replace r0 := r0.mark hg1 (fun z hz => by cases hz; omega)
  replace HB := HB.trans (grown_below hg1 (by omega) HB.size)
  replace own := own.mono (show w.heap.size ≤ _ by simp; omega)
  clear hc0 hc1 hg1
  have g0 := r0.cell 0
  have z0 := r0.frozen 0
  have g1 := r0.cell 1
  have z1 := r0.frozen 1
  have g2 := r0.cell 2
  have z2 := r0.frozen 2
  have F := fin3 (p := w.heap.size) (a := .int .i64 W) (b := .int .i64 H) (c := .slice A1 xs.length c1) own (row_ne' own.1 r0 (by decide)) HB (Nat.le_refl _)
  go_wp2
  exact bodyPost_ret (v := chartV W H (.slice A1 xs.length c1)) (by simp [results, Try.results24, go_sem, *]) rfl ⟨W, H, A1, c1, xs, rfl, hsm, F.1, F.2⟩
set_option maxRecDepth 100000 in
set_option maxHeartbeats 4000000 in
theorem drawColorShare_any (A : Option Addr) (n c B : Nat) (w : World) (h : RdB w B A n c) (hB : B ≤ w.heap.size) (hn : n ≤ 65536) : Calls Try.prog 45 #[.slice A n c] w (GaveCI w) := by
  have r0 := (Blk.new w #[.int .i64 0, .int .i64 0, .slice none 0 0] 26).alloc (.cells #[.slice A n c, .int .i64 0, .int .u64 0] 55)
  have hc0 : Cur ((w.alloc (.cells #[.int .i64 0, .int .i64 0, .slice none 0 0] 26)).alloc (.cells #[.slice A n c, .int .i64 0, .int .u64 0] 55)) (w.heap.size + 1) 0 := by
    have := cur_new (h.alloc hB (.cells #[.int .i64 0, .int .i64 0, .slice none 0 0] 26)) (by simp; omega) hn
    simpa using this
  have HB : Below w.heap.size w ((w.alloc (.cells #[.int .i64 0, .int .i64 0, .slice none 0 0] 26)).alloc (.cells #[.slice A n c, .int .i64 0, .int .u64 0] 55)) := ((Below.refl _ _).alloc (Nat.le_refl _) _).alloc (by simp) _
  clear h
  go_enter Try.func45, Try.ntmps45
  go_wp2_with fail
  refine (chart_any (w.heap.size + 1) 0 _ hc0 (by omega)).mono ?_
  rintro e w1 ⟨W, H, A1, c1, xs, rfl, hsm, own, hc1, hg1⟩
  replace r0 := r0.mark hg1 (fun z hz => by cases hz; omega)
  replace HB := HB.trans (grown_below hg1 (by omega) HB.size)
  have hne1 := fun z' hz' => row_ne own.1 (show Blk w1 (w.heap.size + 1) 55 _ from hc1.choose_spec.choose_spec.choose_spec.choose_spec.choose_spec.choose_spec.1) (by decide) z' hz'
  replace own := own.mono (show w.heap.size ≤ _ by simp; omega)
  clear hc0 hg1
  go_wp2_with fail
  refine (color_any (w.heap.size + 1) (0 + 1000) _ hc1 (by omega)).mono ?_
  rintro e w2 ⟨f, rfl, hf, hc2, hg2⟩
  replace r0 := r0.mark hg2 (fun z hz => by cases hz; omega)
  replace own := own.mark hg2 (fun z z' hz hz' => by cases hz; exact fun e => hne1 z' hz' e.symm)
  replace HB := HB.trans (grown_below hg2 (by omega) HB.size)
  clear hc1 hc2 hg2 hne1
  have g0 := r0.cell 0
  have z0 := r0.frozen 0
  have g1 := r0.cell 1
  have z1 := r0.frozen 1
  have g2 := r0.cell 2
  have z2 := r0.frozen 2
  have F := fin3 (p := w.heap.size) (a := .int .i64 W) (b := .int .i64 H) (c := .slice A1 xs.length c1) own (row_ne' own.1 r0 (by decide)) HB (Nat.le_refl _)
  go_wp2
  exact bodyPost_ret (v := .tuple #[chartV W H (.slice A1 xs.length c1), .int .i64 f]) (by simp [results, Try.results45, go_sem, *]) rfl ⟨W, H, A1, c1, xs, f, rfl, hsm, ⟨by omega, by omega⟩, F.1, F.2⟩
set_option maxRecDepth 100000 in
set_option maxHeartbeats 4000000 in
theorem drawAreasOf_any (A : Option Addr) (n c B : Nat) (w : World) (h : RdB w B A n c) (hB : B ≤ w.heap.size) (hn : n ≤ 65536) : Calls Try.prog 5 #[.slice A n c] w (GaveChart w) := by
  have r0 := Blk.new w #[.int .i64 0, .int .i64 0, .slice none 0 0] 26
  have h' := h.alloc hB (.cells #[.int .i64 0, .int .i64 0, .slice none 0 0] 26)
  have HB : Below w.heap.size w (w.alloc (.cells #[.int .i64 0, .int .i64 0, .slice none 0 0] 26)) := (Below.refl _ _).alloc (Nat.le_refl _) _
  clear h
  go_enter Try.func5, Try.ntmps5
  go_wp2_with fail
  refine (drawIsChart_any A n c B _ h' (by simp; omega) hn).mono ?_
  rintro e w1 ⟨W, H, A1, c1, xs, rfl, hsm, own, hb⟩
  replace r0 := r0.all hb
  replace HB := HB.trans (hb.mono HB.size)
  replace own := own.mono (show w.heap.size ≤ _ by simp)
  clear hb h'
  have g0 := r0.cell 0
  have z0 := r0.frozen 0
  have g1 := r0.cell 1
  have z1 := r0.frozen 1
  have g2 := r0.cell 2
  have z2 := r0.frozen 2
  have F := fin3 (p := w.heap.size) (a := .int .i64 W) (b := .int .i64 H) (c := .slice A1 xs.length c1) own (row_ne' own.1 r0 (by decide)) HB (Nat.le_refl _)
  go_wp2
  exact bodyPost_ret (v := chartV W H (.slice A1 xs.length c1)) (by simp [results, Try.results5, go_sem, *]) rfl ⟨W, H, A1, c1, xs, rfl, hsm, F.1, F.2⟩
set_option maxRecDepth 100000 in
set_option maxHeartbeats 4000000 in
theorem drawAreaSizes_any (A : Option Addr) (n c B : Nat) (w : World) (h : RdB w B A n c) (hB : B ≤ w.heap.size) (hn : n ≤ 65536) : Calls Try.prog 22 #[.slice A n c] w (GaveCI w) := by
  have r0 := Blk.new w #[.int .i64 0, .int .i64 0, .slice none 0 0] 26
  have h' := h.alloc hB (.cells #[.int .i64 0, .int .i64 0, .slice none 0 0] 26)
  have HB : Below w.heap.size w (w.alloc (.cells #[.int .i64 0, .int .i64 0, .slice none 0 0] 26)) := (Below.refl _ _).alloc (Nat.le_refl _) _
  clear h
  go_enter Try.func22, Try.ntmps22
  go_wp2_with fail
  refine (drawColorShare_any A n c B _ h' (by simp; omega) hn).mono ?_
  rintro e w1 ⟨W, H, A1, c1, xs, f, rfl, hsm, hf, own, hb⟩
  replace r0 := r0.all hb
  replace HB := HB.trans (hb.mono HB.size)
  replace own := own.mono (show w.heap.size ≤ _ by simp)
  clear hb h'
  have g0 := r0.cell 0
  have z0 := r0.frozen 0
  have g1 := r0.cell 1
  have z1 := r0.frozen 1
  have g2 := r0.cell 2
  have z2 := r0.frozen 2
  have F := fin3 (p := w.heap.size) (a := .int .i64 W) (b := .int .i64 H) (c := .slice A1 xs.length c1) own (row_ne' own.1 r0 (by decide)) HB (Nat.le_refl _)
  go_wp2
  exact bodyPost_ret (v := .tuple #[chartV W H (.slice A1 xs.length c1), .int .i64 f]) (by simp [results, Try.results22, go_sem, *]) rfl ⟨W, H, A1, c1, xs, f, rfl, hsm, hf, F.1, F.2⟩
set_option maxRecDepth 100000 in
set_option maxHeartbeats 4000000 in
theorem drawAreaNeighbors_any (A : Option Addr) (n c B : Nat) (w : World) (h : RdB w B A n c) (hB : B ≤ w.heap.size) (hn : n ≤ 65536) : Calls Try.prog 14 #[.slice A n c] w (GaveCI w) := by
  have r0 := (Blk.new w #[.int .i64 0, .int .i64 0, .slice none 0 0] 26).alloc (.cells #[.slice A n c, .int .i64 0, .int .u64 0] 55)
  have hc0 : Cur ((w.alloc (.cells #[.int .i64 0, .int .i64 0, .slice none 0 0] 26)).alloc (.cells #[.slice A n c, .int .i64 0, .int .u64 0] 55)) (w.heap.size + 1) 0 := by
    have := cur_new (h.alloc hB (.cells #[.int .i64 0, .int .i64 0, .slice none 0 0] 26)) (by simp; omega) hn
    simpa using this
  have HB : Below w.heap.size w ((w.alloc (.cells #[.int .i64 0, .int .i64 0, .slice none 0 0] 26)).alloc (.cells #[.slice A n c, .int .i64 0, .int .u64 0] 55)) := ((Below.refl _ _).alloc (Nat.le_refl _) _).alloc (by simp) _
  clear h
  go_enter Try.func14, Try.ntmps14
  go_wp2_with fail
  refine (chart_any (w.heap.size + 1) 0 _ hc0 (by omega)).mono ?_
  rintro e w1 ⟨W, H, A1, c1, xs, rfl, hsm, own, hc1, hg1⟩
  replace r0 := r0.mark hg1 (fun z hz => by cases hz; omega)
  replace HB := HB.trans (grown_below hg1 (by omega) HB.size)
  have hne1 := fun z' hz' => row_ne own.1 (show Blk w1 (w.heap.size + 1) 55 _ from hc1.choose_spec.choose_spec.choose_spec.choose_spec.choose_spec.choose_spec.1) (by decide) z' hz'
  replace own := own.mono (show w.heap.size ≤ _ by simp; omega)
  clear hc0 hg1
  have hal : Below w1.heap.size w1 (w1.alloc (.cells #[.int .i64 W, .int .i64 H, .slice A1 xs.length c1] 26)) := (Below.refl _ _).alloc (Nat.le_refl _) _
  have x1 := Blk.new w1 #[.int .i64 W, .int .i64 H, .slice A1 xs.length c1] 26
  have r1 := r0.all hal
  have own1 := own.all hal
  have hcB := hc1.all hal
  have HB1 := HB.trans (hal.mono HB.size)
  have hp1 := hc1.lt
  have hqp : w1.heap.size ≠ w.heap.size + 1 := by omega
  have hwp : w.heap.size ≠ w1.heap.size := by omega
  clear r0 own hc1 HB hal
  go_upto_region 3 with fail
  have e0 := x1.cell 0
  have e1 := x1.cell 1
  have e2 := x1.cell 2
  simp only [List.getElem?_toArray, List.getElem?_cons_zero, List.getElem?_cons_succ] at e0 e1 e2
  generalize w1.alloc (.cells #[.int .i64 W, .int .i64 H, .slice A1 xs.length c1] 26) = W1 at *
  have hcd := cur_drew hcB
  have od : Own W1.drew w.heap.size (.slice A1 xs.length c1) xs := own1.drewN 1
  have g0 := r1.cell 0
  have g1 := r1.cell 1
  have g2 := r1.cell 2
  have z0 := r1.frozen 0
  have z1 := r1.frozen 1
  have z2 := r1.frozen 2
  clear x1
  go_region_held3 (fun w' => w'.cell? ⟨w1.heap.size, 0, none⟩ = some (.int .i64 W) ∧ w'.cell? ⟨w1.heap.size, 1, none⟩ = some (.int .i64 H) ∧ w'.cell? ⟨w1.heap.size, 2, none⟩ = some (.slice A1 xs.length c1)) (first | exact ⟨e0, e1, e2⟩ | (refine ⟨?_, ?_, ?_⟩ <;> (repeat rw [World.cell?_setCell_far _ _ _ _ (by exact hwp)]) <;> assumption) | go_keep) (first | (go_at_call 32; (with_reducible refine (areaOf_any (w.heap.size + 1) (0 + 1000) W H A1 c1 w.heap.size xs _ hcd (by omega) od).mono ?_); rintro e w2 ⟨a, rfl, ha, hc2, hg⟩; have hg1 := (grown_drew' hg); have r2 := r1.mark hg1 (fun z hz => by cases hz; omega); have own2 := own1.mark hg1 (fun z z' hz hz' => by cases hz; exact fun e => hne1 z' hz' e.symm); have HB2 := HB1.trans (grown_below hg1 (by omega) HB1.size); replace e0 := cells_mark e0 hg1 hqp; replace e1 := cells_mark e1 hg1 hqp; replace e2 := cells_mark e2 hg1 hqp; have g0 := r2.cell 0; have g1 := r2.cell 1; have g2 := r2.cell 2; have z0 := r2.frozen 0; have z1 := r2.frozen 1; have z2 := r2.frozen 2; clear hg1))
  have F := fin3 (p := w.heap.size) (a := .int .i64 W) (b := .int .i64 H) (c := .slice A1 xs.length c1) own2 (row_ne' own2.1 r2 (by decide)) HB2 (Nat.le_refl _)
  go_wp2
  exact bodyPost_ret (v := .tuple #[chartV W H (.slice A1 xs.length c1), .int .i64 a]) (by simp [results, Try.results14, go_sem, *]) rfl ⟨W, H, A1, c1, xs, a, rfl, hsm, ⟨by omega, by omega⟩, F.1, F.2⟩
set_option maxRecDepth 100000 in
set_option maxHeartbeats 4000000 in
theorem drawFillArea_any (A : Option Addr) (n c B : Nat) (w : World) (h : RdB w B A n c) (hB : B ≤ w.heap.size) (hn : n ≤ 65536) : Calls Try.prog 18 #[.slice A n c] w (GaveChartTwo w) := by
  have r0 := (Blk.new w #[.int .i64 0, .int .i64 0, .slice none 0 0] 26).alloc (.cells #[.slice A n c, .int .i64 0, .int .u64 0] 55)
  have hc0 : Cur ((w.alloc (.cells #[.int .i64 0, .int .i64 0, .slice none 0 0] 26)).alloc (.cells #[.slice A n c, .int .i64 0, .int .u64 0] 55)) (w.heap.size + 1) 0 := by
    have := cur_new (h.alloc hB (.cells #[.int .i64 0, .int .i64 0, .slice none 0 0] 26)) (by simp; omega) hn
    simpa using this
  have HB : Below w.heap.size w ((w.alloc (.cells #[.int .i64 0, .int .i64 0, .slice none 0 0] 26)).alloc (.cells #[.slice A n c, .int .i64 0, .int .u64 0] 55)) := ((Below.refl _ _).alloc (Nat.le_refl _) _).alloc (by simp) _
  clear h
  go_enter Try.func18, Try.ntmps18
  go_wp2_with fail
  refine (chart_any (w.heap.size + 1) 0 _ hc0 (by omega)).mono ?_
  rintro e w1 ⟨W, H, A1, c1, xs, rfl, hsm, own, hc1, hg1⟩
  replace r0 := r0.mark hg1 (fun z hz => by cases hz; omega)
  replace HB := HB.trans (grown_below hg1 (by omega) HB.size)
  have hne1 := fun z' hz' => row_ne own.1 (show Blk w1 (w.heap.size + 1) 55 _ from hc1.choose_spec.choose_spec.choose_spec.choose_spec.choose_spec.choose_spec.1) (by decide) z' hz'
  replace own := own.mono (show w.heap.size ≤ _ by simp; omega)
  clear hc0 hg1
  have hal : Below w1.heap.size w1 (w1.alloc (.cells #[.int .i64 W, .int .i64 H, .slice A1 xs.length c1] 26)) := (Below.refl _ _).alloc (Nat.le_refl _) _
  have x1 := Blk.new w1 #[.int .i64 W, .int .i64 H, .slice A1 xs.length c1] 26
  have r1 := r0.all hal
  have own1 := own.all hal
  have hcB := hc1.all hal
  have HB1 := HB.trans (hal.mono HB.size)
  have hp1 := hc1.lt
  have hqp : w1.heap.size ≠ w.heap.size + 1 := by omega
  have hwp : w.heap.size ≠ w1.heap.size := by omega
  clear r0 own hc1 HB hal
  go_upto_region 3 with fail
  have e0 := x1.cell 0
  have e1 := x1.cell 1
  have e2 := x1.cell 2
  simp only [List.getElem?_toArray, List.getElem?_cons_zero, List.getElem?_cons_succ] at e0 e1 e2
  generalize w1.alloc (.cells #[.int .i64 W, .int .i64 H, .slice A1 xs.length c1] 26) = W1 at *
  have hcd := cur_drew hcB
  have od : Own W1.drew w.heap.size (.slice A1 xs.length c1) xs := own1.drewN 1
  have g0 := r1.cell 0
  have g1 := r1.cell 1
  have g2 := r1.cell 2
  have z0 := r1.frozen 0
  have z1 := r1.frozen 1
  have z2 := r1.frozen 2
  clear x1
  go_region_held3 (fun w' => w'.cell? ⟨w1.heap.size, 0, none⟩ = some (.int .i64 W) ∧ w'.cell? ⟨w1.heap.size, 1, none⟩ = some (.int .i64 H) ∧ w'.cell? ⟨w1.heap.size, 2, none⟩ = some (.slice A1 xs.length c1)) (first | exact ⟨e0, e1, e2⟩ | (refine ⟨?_, ?_, ?_⟩ <;> (repeat rw [World.cell?_setCell_far _ _ _ _ (by exact hwp)]) <;> assumption) | go_keep) (first | (go_at_call 32; (with_reducible refine (areaOf_any (w.heap.size + 1) (0 + 1000) W H A1 c1 w.heap.size xs _ hcd (by omega) od).mono ?_); rintro e w2 ⟨a, rfl, ha, hc2, hg⟩; have hg1 := (grown_drew' hg); have r2 := r1.mark hg1 (fun z hz => by cases hz; omega); have own2 := own1.mark hg1 (fun z z' hz hz' => by cases hz; exact fun e => hne1 z' hz' e.symm); have HB2 := HB1.trans (grown_below hg1 (by omega) HB1.size); replace e0 := cells_mark e0 hg1 hqp; replace e1 := cells_mark e1 hg1 hqp; replace e2 := cells_mark e2 hg1 hqp; have g0 := r2.cell 0; have g1 := r2.cell 1; have g2 := r2.cell 2; have z0 := r2.frozen 0; have z1 := r2.frozen 1; have z2 := r2.frozen 2; clear hg1) | (go_at_call 41; (with_reducible refine (color_any (w.heap.size + 1) (0 + 1000 + 10) _ hc2 (by omega)).mono ?_); rintro e w3 ⟨f, rfl, hf, hc3, hg⟩; clear g0 g1 g2 z0 z1 z2; have hg3 := hg; have r3 := r2.mark hg3 (fun z hz => by cases hz; omega); have own3 := own2.mark hg3 (fun z z' hz hz' => by cases hz; exact fun e => hne1 z' hz' e.symm); have HB3 := HB2.trans (grown_below hg3 (by omega) HB2.size); replace e0 := cells_mark e0 hg3 hqp; replace e1 := cells_mark e1 hg3 hqp; replace e2 := cells_mark e2 hg3 hqp; have g0 := r3.cell 0; have g1 := r3.cell 1; have g2 := r3.cell 2; have z0 := r3.frozen 0; have z1 := r3.frozen 1; have z2 := r3.frozen 2; clear hg3))
  have F := fin3 (p := w.heap.size) (a := .int .i64 W) (b := .int .i64 H) (c := .slice A1 xs.length c1) own3 (row_ne' own3.1 r3 (by decide)) HB3 (Nat.le_refl _)
  go_wp2
  exact bodyPost_ret (v := .tuple #[chartV W H (.slice A1 xs.length c1), .int .i64 a, .int .i64 f]) (by simp [results, Try.results18, go_sem, *]) rfl ⟨W, H, A1, c1, xs, a, f, rfl, hsm, ⟨by omega, by omega⟩, ⟨by omega, by omega⟩, F.1, F.2⟩
theorem vInts_low (A A' : Option Addr) (n c n' c' B B' : Nat) (xs : List Int) (w : World) (h : Rd w B A n c xs) (h' : Rd w B' A' n' c' xs) :
    Calls Try.prog 8 #[.slice A n c, .slice A' n' c'] w fun e w' => e = .returned (.bool true) ∧ Below w.heap.size w w' := by
  refine (vInts_same A A' n c n' c' B B' xs w h h').mono ?_
  rintro e w' ⟨rfl, q, rfl⟩
  exact ⟨rfl, low_drewN w q⟩
end Go.Proofs.Ytgahompcejbjoaa
