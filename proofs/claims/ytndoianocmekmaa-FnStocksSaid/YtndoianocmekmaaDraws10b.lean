/- The draws of chapter 10's functions over yarns and charts. Condition: at most 65536 bytes. -/
import Derived.Test.YtndoianocmekmaaDraws10
import Derived.Test.YtndoianocmekmaaDrawChart
import Derived.Test.YtndoianocmekmaaDrawBase
namespace Go.Proofs.Ytndoianocmekmaa
open Go.RowKit

theorem fin4Y {w0 w : World} {p lo B : Nat} {v a b c d : Value} {ys : List Int} (h : Own w lo v ys) (hp : v.ownBlock ≠ some p) (hb : Below B w0 w) (hB : B ≤ p) :
    Own ((((w.setCell ⟨p, 0, none⟩ a).setCell ⟨p, 1, none⟩ b).setCell ⟨p, 2, none⟩ c).setCell ⟨p, 3, none⟩ d) lo v ys ∧ Below B w0 ((((w.setCell ⟨p, 0, none⟩ a).setCell ⟨p, 1, none⟩ b).setCell ⟨p, 2, none⟩ c).setCell ⟨p, 3, none⟩ d) :=
  ⟨(((h.far (a := ⟨p, 0, none⟩) hp a).far (a := ⟨p, 1, none⟩) hp b).far (a := ⟨p, 2, none⟩) hp c).far (a := ⟨p, 3, none⟩) hp d,
   (((hb.setCell (p := ⟨p, 0, none⟩) hB a).setCell (p := ⟨p, 1, none⟩) hB b).setCell (p := ⟨p, 2, none⟩) hB c).setCell (p := ⟨p, 3, none⟩) hB d⟩
def GaveYI (w : World) (e : Ending) (w' : World) : Prop := ∃ (s : YarnR) (y : Int), e = .returned (.tuple #[.agg #[.int .i64 s.f0, .int .i64 s.f1, .int .i64 s.f2, .int .i64 s.f3], .int .i64 y]) ∧ s.ok ∧ I64 y ∧ Below w.heap.size w w'
def GaveCY (w : World) (e : Ending) (w' : World) : Prop := ∃ (W H : Int) (A : Option Addr) (c : Nat) (xs : List Int) (s : YarnR), e = .returned (.tuple #[chartV W H (.slice A xs.length c), .agg #[.int .i64 s.f0, .int .i64 s.f1, .int .i64 s.f2, .int .i64 s.f3]]) ∧ Small W H xs ∧ s.ok ∧ Own w' w.heap.size (.slice A xs.length c) xs ∧ Below w.heap.size w w'
set_option maxRecDepth 100000 in
set_option maxHeartbeats 4000000 in
theorem drawYarnFor_any (A : Option Addr) (n c B : Nat) (w : World) (h : RdB w B A n c) (hB : B ≤ w.heap.size) (hn : n ≤ 65536) : Calls Try.prog 6 #[.slice A n c] w (GaveYI w) := by
  have r0 := (Blk.new w #[.int .i64 0, .int .i64 0, .int .i64 0, .int .i64 0] 25).alloc (.cells #[.slice A n c, .int .i64 0, .int .u64 0] 52)
  have hc0 := cur_new (h.alloc hB (.cells #[.int .i64 0, .int .i64 0, .int .i64 0, .int .i64 0] 25)) (by simp; omega) hn
  have HB : Below w.heap.size w ((w.alloc (.cells #[.int .i64 0, .int .i64 0, .int .i64 0, .int .i64 0] 25)).alloc (.cells #[.slice A n c, .int .i64 0, .int .u64 0] 52)) := ((Below.refl _ _).alloc (Nat.le_refl _) _).alloc (by simp) _
  rw [show (w.alloc (.cells #[.int .i64 0, .int .i64 0, .int .i64 0, .int .i64 0] 25)).heap.size = w.heap.size + 1 by simp] at hc0
  clear h
  go_enter Try.func6, Try.ntmps6
  go_wp2_with fail
  refine (yarn_any (w.heap.size + 1) 0 _ hc0 (by omega)).mono ?_
  rintro e w2 ⟨s, rfl, hs, hc2, hg2⟩
  replace r0 := r0.mark hg2 (fun z hz => by cases hz; omega)
  replace HB := HB.trans (grown_below hg2 (by omega) HB.size)
  clear hc0 hg2
  go_wp2_with fail
  refine (among5 (w.heap.size + 1) (0 + 100) w2.heap.size 8 [0, 1, 7, 64, 1000, 100000, 100001, -1] w2 rfl rfl hc2 (by omega) (by decide) (by decide) (i64_lit (by decide))).mono ?_
  rintro e w3 ⟨y, rfl, hy, hc3, hg3⟩
  have Iy := i64_lit (l := [0, 1, 7, 64, 1000, 100000, 100001, -1]) (by decide) y hy
  replace r0 := r0.mark hg3 (fun z hz => by cases hz; omega)
  replace HB := HB.trans (grown_below hg3 (by omega) HB.size)
  clear hc2 hc3 hg3 hy
  have v0 := r0.cell 0
  have v1 := r0.cell 1
  have v2 := r0.cell 2
  have v3 := r0.cell 3
  have f0 := r0.frozen 0
  have f1 := r0.frozen 1
  have f2 := r0.frozen 2
  have f3 := r0.frozen 3
  go_wp2
  refine bodyPost_ret (v := .tuple #[.agg #[.int .i64 s.f0, .int .i64 s.f1, .int .i64 s.f2, .int .i64 s.f3], .int .i64 y]) (by simp [results, Try.results6, go_sem, *]) rfl ⟨s, y, rfl, hs, Iy, by repeat (first | assumption | exact Below.refl _ _ | refine belowN ?_ _ | refine belowD ?_ | (refine Below.setCell ?_ (by first | (simp; done) | (simp; omega) | omega) _) | (refine Below.alloc ?_ (by first | (simp; done) | (simp; omega) | omega) _))⟩
set_option maxRecDepth 100000 in
set_option maxHeartbeats 4000000 in
theorem drawKnotsFrom_any (A : Option Addr) (n c B : Nat) (w : World) (h : RdB w B A n c) (hB : B ≤ w.heap.size) (hn : n ≤ 65536) : Calls Try.prog 18 #[.slice A n c] w (GaveYI w) := by
  have r0 := (Blk.new w #[.int .i64 0, .int .i64 0, .int .i64 0, .int .i64 0] 25).alloc (.cells #[.slice A n c, .int .i64 0, .int .u64 0] 52)
  have hc0 := cur_new (h.alloc hB (.cells #[.int .i64 0, .int .i64 0, .int .i64 0, .int .i64 0] 25)) (by simp; omega) hn
  have HB : Below w.heap.size w ((w.alloc (.cells #[.int .i64 0, .int .i64 0, .int .i64 0, .int .i64 0] 25)).alloc (.cells #[.slice A n c, .int .i64 0, .int .u64 0] 52)) := ((Below.refl _ _).alloc (Nat.le_refl _) _).alloc (by simp) _
  rw [show (w.alloc (.cells #[.int .i64 0, .int .i64 0, .int .i64 0, .int .i64 0] 25)).heap.size = w.heap.size + 1 by simp] at hc0
  clear h
  go_enter Try.func18, Try.ntmps18
  go_wp2_with fail
  refine (yarn_any (w.heap.size + 1) 0 _ hc0 (by omega)).mono ?_
  rintro e w2 ⟨s, rfl, hs, hc2, hg2⟩
  replace r0 := r0.mark hg2 (fun z hz => by cases hz; omega)
  replace HB := HB.trans (grown_below hg2 (by omega) HB.size)
  clear hc0 hg2
  go_wp2_with fail
  refine (among5 (w.heap.size + 1) (0 + 100) w2.heap.size 8 [0, 1, 50, 999, 20000, 100000, 100001, -1] w2 rfl rfl hc2 (by omega) (by decide) (by decide) (i64_lit (by decide))).mono ?_
  rintro e w3 ⟨y, rfl, hy, hc3, hg3⟩
  have Iy := i64_lit (l := [0, 1, 50, 999, 20000, 100000, 100001, -1]) (by decide) y hy
  replace r0 := r0.mark hg3 (fun z hz => by cases hz; omega)
  replace HB := HB.trans (grown_below hg3 (by omega) HB.size)
  clear hc2 hc3 hg3 hy
  have v0 := r0.cell 0
  have v1 := r0.cell 1
  have v2 := r0.cell 2
  have v3 := r0.cell 3
  have f0 := r0.frozen 0
  have f1 := r0.frozen 1
  have f2 := r0.frozen 2
  have f3 := r0.frozen 3
  go_wp2
  refine bodyPost_ret (v := .tuple #[.agg #[.int .i64 s.f0, .int .i64 s.f1, .int .i64 s.f2, .int .i64 s.f3], .int .i64 y]) (by simp [results, Try.results18, go_sem, *]) rfl ⟨s, y, rfl, hs, Iy, by repeat (first | assumption | exact Below.refl _ _ | refine belowN ?_ _ | refine belowD ?_ | (refine Below.setCell ?_ (by first | (simp; done) | (simp; omega) | omega) _) | (refine Below.alloc ?_ (by first | (simp; done) | (simp; omega) | omega) _))⟩
set_option maxRecDepth 100000 in
set_option maxHeartbeats 4000000 in
theorem drawYarnByColor_any (A : Option Addr) (n c B : Nat) (w : World) (h : RdB w B A n c) (hB : B ≤ w.heap.size) (hn : n ≤ 65536) : Calls Try.prog 39 #[.slice A n c] w (GaveCY w) := by
  have r0 := ((Blk.new w #[.int .i64 0, .int .i64 0, .slice none 0 0] 33).alloc (.cells #[.int .i64 0, .int .i64 0, .int .i64 0, .int .i64 0] 25)).alloc (.cells #[.slice A n c, .int .i64 0, .int .u64 0] 52)
  have r1 := ((Blk.new (w.alloc (.cells #[.int .i64 0, .int .i64 0, .slice none 0 0] 33)) #[.int .i64 0, .int .i64 0, .int .i64 0, .int .i64 0] 25).alloc (.cells #[.slice A n c, .int .i64 0, .int .u64 0] 52)).at_ (q := w.heap.size + 1) (by simp)
  have hc0 : Cur (((w.alloc (.cells #[.int .i64 0, .int .i64 0, .slice none 0 0] 33)).alloc (.cells #[.int .i64 0, .int .i64 0, .int .i64 0, .int .i64 0] 25)).alloc (.cells #[.slice A n c, .int .i64 0, .int .u64 0] 52)) (w.heap.size + 2) 0 := by
    have := cur_new ((h.alloc hB (.cells #[.int .i64 0, .int .i64 0, .slice none 0 0] 33)).alloc (by simp; omega) (.cells #[.int .i64 0, .int .i64 0, .int .i64 0, .int .i64 0] 25)) (by simp; omega) hn
    simpa using this
  have HB : Below w.heap.size w (((w.alloc (.cells #[.int .i64 0, .int .i64 0, .slice none 0 0] 33)).alloc (.cells #[.int .i64 0, .int .i64 0, .int .i64 0, .int .i64 0] 25)).alloc (.cells #[.slice A n c, .int .i64 0, .int .u64 0] 52)) := (((Below.refl _ _).alloc (Nat.le_refl _) _).alloc (by simp) _).alloc (by simp; omega) _
  clear h
  go_enter Try.func39, Try.ntmps39
  go_wp2_with fail
  refine (chart_any (w.heap.size + 2) 0 _ hc0 (by omega)).mono ?_
  rintro e w1 ⟨W, H, A1, c1, xs, rfl, hsm, own, hc1, hg1⟩
  replace r0 := r0.mark hg1 (fun z hz => by cases hz; omega)
  replace r1 := r1.mark hg1 (fun z hz => by cases hz; omega)
  replace HB := HB.trans (grown_below hg1 (by omega) HB.size)
  have hne1 := fun z' hz' => row_ne own.1 (show Blk w1 (w.heap.size + 2) 52 _ from hc1.choose_spec.choose_spec.choose_spec.choose_spec.choose_spec.choose_spec.1) (by decide) z' hz'
  replace own := own.mono (show w.heap.size ≤ _ by simp; omega)
  clear hc0 hg1
  go_wp2_with fail
  refine (yarn_any (w.heap.size + 2) (0 + 1000) _ hc1 (by omega)).mono ?_
  rintro e w2 ⟨s, rfl, hs, hc2, hg2⟩
  replace r0 := r0.mark hg2 (fun z hz => by cases hz; omega)
  replace r1 := r1.mark hg2 (fun z hz => by cases hz; omega)
  replace own := own.mark hg2 (fun z z' hz hz' => by cases hz; exact fun e => hne1 z' hz' e.symm)
  replace HB := HB.trans (grown_below hg2 (by omega) HB.size)
  clear hc1 hc2 hg2 hne1
  have g0 := r0.cell 0
  have z0 := r0.frozen 0
  have g1 := r0.cell 1
  have z1 := r0.frozen 1
  have g2 := r0.cell 2
  have z2 := r0.frozen 2
  have v0 := r1.cell 0
  have f0 := r1.frozen 0
  have v1 := r1.cell 1
  have f1 := r1.frozen 1
  have v2 := r1.cell 2
  have f2 := r1.frozen 2
  have v3 := r1.cell 3
  have f3 := r1.frozen 3
  have F := fin3 (p := w.heap.size) (a := .int .i64 W) (b := .int .i64 H) (c := .slice A1 xs.length c1) own (row_ne' own.1 r0 (by decide)) HB (Nat.le_refl _)
  have G := fin4Y (p := w.heap.size + 1) (a := .int .i64 s.f0) (b := .int .i64 s.f1) (c := .int .i64 s.f2) (d := .int .i64 s.f3) F.1 (row_ne' own.1 r1 (by decide)) F.2 (by omega)
  go_wp2
  exact bodyPost_ret (v := .tuple #[chartV W H (.slice A1 xs.length c1), .agg #[.int .i64 s.f0, .int .i64 s.f1, .int .i64 s.f2, .int .i64 s.f3]]) (by simp [results, Try.results39, go_sem, *]) rfl ⟨W, H, A1, c1, xs, s, rfl, hsm, hs, G.1, G.2⟩
set_option maxRecDepth 100000 in
set_option maxHeartbeats 4000000 in
theorem drawBallsByColor_any (A : Option Addr) (n c B : Nat) (w : World) (h : RdB w B A n c) (hB : B ≤ w.heap.size) (hn : n ≤ 65536) : Calls Try.prog 12 #[.slice A n c] w (GaveCY w) := by
  have r0 := (Blk.new w #[.int .i64 0, .int .i64 0, .slice none 0 0] 33).alloc (.cells #[.int .i64 0, .int .i64 0, .int .i64 0, .int .i64 0] 25)
  have r1 := (Blk.new (w.alloc (.cells #[.int .i64 0, .int .i64 0, .slice none 0 0] 33)) #[.int .i64 0, .int .i64 0, .int .i64 0, .int .i64 0] 25).at_ (q := w.heap.size + 1) (by simp)
  have h' := (h.alloc hB (.cells #[.int .i64 0, .int .i64 0, .slice none 0 0] 33)).alloc (by simp; omega) (.cells #[.int .i64 0, .int .i64 0, .int .i64 0, .int .i64 0] 25)
  have HB : Below w.heap.size w ((w.alloc (.cells #[.int .i64 0, .int .i64 0, .slice none 0 0] 33)).alloc (.cells #[.int .i64 0, .int .i64 0, .int .i64 0, .int .i64 0] 25)) := ((Below.refl _ _).alloc (Nat.le_refl _) _).alloc (by simp) _
  clear h
  go_enter Try.func12, Try.ntmps12
  go_wp2_with fail
  refine (drawYarnByColor_any A n c B _ h' (by simp; omega) hn).mono ?_
  rintro e w1 ⟨W, H, A1, c1, xs, s, rfl, hsm, hs, own, hb⟩
  replace r0 := r0.all hb
  replace r1 := r1.all hb
  replace HB := HB.trans (hb.mono HB.size)
  replace own := own.mono (show w.heap.size ≤ _ by simp; omega)
  clear hb h'
  have g0 := r0.cell 0
  have z0 := r0.frozen 0
  have g1 := r0.cell 1
  have z1 := r0.frozen 1
  have g2 := r0.cell 2
  have z2 := r0.frozen 2
  have v0 := r1.cell 0
  have f0 := r1.frozen 0
  have v1 := r1.cell 1
  have f1 := r1.frozen 1
  have v2 := r1.cell 2
  have f2 := r1.frozen 2
  have v3 := r1.cell 3
  have f3 := r1.frozen 3
  have F := fin3 (p := w.heap.size) (a := .int .i64 W) (b := .int .i64 H) (c := .slice A1 xs.length c1) own (row_ne' own.1 r0 (by decide)) HB (Nat.le_refl _)
  have G := fin4Y (p := w.heap.size + 1) (a := .int .i64 s.f0) (b := .int .i64 s.f1) (c := .int .i64 s.f2) (d := .int .i64 s.f3) F.1 (row_ne' own.1 r1 (by decide)) F.2 (by omega)
  go_wp2
  exact bodyPost_ret (v := .tuple #[chartV W H (.slice A1 xs.length c1), .agg #[.int .i64 s.f0, .int .i64 s.f1, .int .i64 s.f2, .int .i64 s.f3]]) (by simp [results, Try.results12, go_sem, *]) rfl ⟨W, H, A1, c1, xs, s, rfl, hsm, hs, G.1, G.2⟩
end Go.Proofs.Ytndoianocmekmaa
