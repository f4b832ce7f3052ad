/- The draw of a work sheet and of a list of them. Condition: few draws. -/
import Derived.Test.YtihhlldpdfihfaaDrawLit
import Derived.Test.YtihhlldpdfihfaaOf0
import Derived.Test.YtihhlldpdfihfaaSheets
import Derived.Test.YtihhlldpdfihfaaSheetsS
import Derived.Test.YtihhlldpdfihfaaAppF
import Derived.Test.YtihhlldpdfihfaaRestI
import Derived.BigQuiet
namespace Go.Proofs.Ytihhlldpdfihfaa
open Go.RowKit

/-- What a draw of a sheet leaves. -/
def DrewSheet (w : World) (p k : Nat) (e : Ending) (w' : World) : Prop := ∃ s : WorkSheetR, e = .returned (.agg #[.int .i64 s.f0, .int .i64 s.f1, .int .i64 s.f2, .int .i64 s.f3, .int .i64 s.f4]) ∧ s.ok ∧ Cur w' p k ∧ w.grownBy w' (some p)
theorem least_in {a b : Int} (ha : I64 a) (hb : I64 b) : I64 (leastI a b) := by unfold leastI; split <;> assumption
set_option maxRecDepth 100000 in
set_option maxHeartbeats 16000000 in
theorem workSheet_any (p k : Nat) (day wv : Int) (w : World) (h : Cur w p k) (hk : k + 100 ≤ 4294967296) (Id : I64 day) (Iw : I64 wv) :
    Calls Try.prog 43 #[.pointer (some ⟨p, 0, none⟩), .int .i64 day, .int .i64 wv] w (DrewSheet w p (k + 100)) := by
  have hpw := h.lt
  have r4 := Blk.new w #[.int .i64 0, .int .i64 0, .int .i64 0, .int .i64 0, .int .i64 0] 36
  have hb0 : Below w.heap.size w (w.alloc (.cells #[.int .i64 0, .int .i64 0, .int .i64 0, .int .i64 0, .int .i64 0] 36)) := (Below.refl _ _).alloc (Nat.le_refl _) _
  have HG := below_grown (row := some p) hb0
  have hc0 := h.all hb0
  clear h hb0
  go_enter Try.func43, Try.ntmps43
  go_wp2_with fail
  refine (among5 p (k + 0) (w.heap.size + 1) 6 [0, 500, 7999, 8000, 8100, 12000] (w.alloc (.cells #[.int .i64 0, .int .i64 0, .int .i64 0, .int .i64 0, .int .i64 0] 36)) (by simp) rfl hc0 (by omega) (by decide) (by decide) (i64_lit (by decide))).mono ?_
  rintro e w1 ⟨y1, rfl, hy1, hc1, hg1⟩
  have Iy1 := i64_lit (l := [0, 500, 7999, 8000, 8100, 12000]) (by decide) y1 hy1
  replace r4 := r4.mark hg1 (fun z hz => by cases hz; omega)
  replace HG := grown_trans HG hg1
  clear hc0 hg1
  have by1 : 0 ≤ y1 ∧ y1 ≤ 12000 := by simp at hy1; omega
  clear hy1
  go_wp2_with fail
  refine (among5 p (k + 2) (w1.heap.size) 4 [0, 0, 3, 12] (w1) rfl rfl hc1 (by omega) (by decide) (by decide) (i64_lit (by decide))).mono ?_
  rintro e w2 ⟨y2, rfl, hy2, hc2, hg2⟩
  have Iy2 := i64_lit (l := [0, 0, 3, 12]) (by decide) y2 hy2
  replace r4 := r4.mark hg2 (fun z hz => by cases hz; omega)
  replace HG := grown_trans HG hg2
  clear hc1 hg2
  clear hy2
  have h2lt : w.heap.size < w2.heap.size := r4.lt
  have ob := (Below.refl w2.heap.size w2).alloc (Nat.le_refl _) (.cells #[.int .i64 wv, .int .i64 day, .int .i64 y1, .int .i64 0, .int .i64 y2] 36)
  have r5 := Blk.new w2 #[.int .i64 wv, .int .i64 day, .int .i64 y1, .int .i64 0, .int .i64 y2] 36
  replace r4 := r4.all ob
  have hc5 := hc2.all ob
  replace HG := grown_trans HG (below_grown (row := some p) ob)
  clear ob hc2
  go_wp2
  obtain ⟨w5, hw5⟩ : ∃ v, w2.alloc (.cells #[.int .i64 wv, .int .i64 day, .int .i64 y1, .int .i64 0, .int .i64 y2] 36) = v := ⟨_, rfl⟩
  rw [hw5] at r4 r5 hc5 HG ⊢
  obtain ⟨P5, hP5⟩ : ∃ v, w2.heap.size = v := ⟨_, rfl⟩
  rw [hP5] at r5 h2lt ⊢
  clear hw5 hP5
  have hp5 : p < P5 := Nat.lt_trans hpw h2lt
  have hg5 : w.heap.size ≤ P5 := Nat.le_of_lt h2lt
  have r4d : Blk w5.drew _ _ _ := r4.all (low_drewN w5 1)
  have r5d : Blk w5.drew _ _ _ := r5.all (low_drewN w5 1)
  have hcd := cur_drew hc5
  have HGd := Lib.hid (grown_trans HG (drew_grown _ _))
  have e0 := r5.cell 2
  have e1 := r5d.cell 2
  have eA := (r5.alloc (.cells #[.int .i64 0, .int .i64 0, .int .i64 99, .int .i64 100, .int .i64 250, .int .i64 12000] 3)).cell 2
  have eAd := (r5d.alloc (.cells #[.int .i64 0, .int .i64 0, .int .i64 99, .int .i64 100, .int .i64 250, .int .i64 12000] 3)).cell 2
  have hl5 := i64_lit (l := [0, 0, 99, 100, 250, 12000]) (by decide)
  have hd5 : 1 ≤ ([0, 0, 99, 100, 250, 12000] : List Int).length := by decide
  have hd6 : ([0, 0, 99, 100, 250, 12000] : List Int).length ≤ 1000 := by decide
  have hk6 : k + 4 + 2 ≤ 4294967296 := by omega
  go_region_law (first | (go_simp; go_at_call 33; refine (among5 p (k + 4) w5.heap.size 6 [0, 0, 99, 100, 250, 12000] w5.drew rfl rfl hcd hk6 hd5 hd6 hl5).mono ?_; rintro e w6 ⟨y3, rfl, hy3, hc6, hg6⟩; have Iy3 := i64_lit (l := [0, 0, 99, 100, 250, 12000]) (by decide) y3 hy3; have r46 := r4d.mark hg6 (fun z hz => (by cases hz; omega)); have r56 := r5d.mark hg6 (fun z hz => (by cases hz; omega)); have HG6 := Lib.hid (grown_trans HGd.out hg6); have x2 := r56.cell 2; have x3 := r56.cell 3; have z3 := r56.frozen 3) | (go_simp; go_at_call 55; refine (l1Least_any y1 y3 _).mono ?_; rintro e w7 ⟨rfl, rfl⟩))
  all_goals
    obtain ⟨q3, hq3⟩ : ∃ q, leastI y1 y3 = q := ⟨_, rfl⟩
    have Iq3 : I64 q3 := hq3 ▸ least_in Iy1 Iy3
    rw [hq3]
    have r5 : Blk (w6.setCell ⟨P5, 3, none⟩ (.int .i64 q3)) P5 36 #[.int .i64 wv, .int .i64 day, .int .i64 y1, .int .i64 q3, .int .i64 y2] := r56.set_ 3 (.int .i64 q3)
    have r4 : Blk (w6.setCell ⟨P5, 3, none⟩ (.int .i64 q3)) w.heap.size 36 #[.int .i64 0, .int .i64 0, .int .i64 0, .int .i64 0, .int .i64 0] := r46.far (a := ⟨P5, 3, none⟩) (show w.heap.size ≠ P5 by omega) (.int .i64 q3)
    have hc7 := cur_set (a := ⟨P5, 3, none⟩) hc6 hp5 (.int .i64 q3)
    have HG := grown_set (a := ⟨P5, 3, none⟩) HG6.out hg5 (.int .i64 q3)
    clear hq3 hy3 hc6 hg6 r46 r56 HG6 x2 x3 z3 r4d r5d hcd HGd e0 e1 eA eAd hl5 hd5 hd6 hk6
    obtain ⟨w7, hw7⟩ : ∃ v, w6.setCell ⟨P5, 3, none⟩ (.int .i64 q3) = v := ⟨_, rfl⟩
    rw [hw7] at r4 r5 hc7 HG ⊢
    clear hw7
    go_wp2_with fail
    refine (pick_any p (k + 4 + 2) 80 w7 hc7 (by omega) (by omega) (by omega)).mono ?_
    rintro e w8 ⟨x, rfl, ⟨x0, x1⟩, hc8, hg8⟩
    replace r4 := r4.mark hg8 (fun z hz => by cases hz; omega)
    replace r5 := r5.mark hg8 (fun z hz => by cases hz; omega)
    replace HG := grown_trans HG hg8
    clear hc7 hg8 x0 x1
    by_cases hx0 : x = 0
    · subst hx0
      have u0 := r5.cell 0
      have u1 := r5.cell 1
      have u2 := r5.cell 2
      have u3 := r5.cell 3
      have u4 := r5.cell 4
      go_wp2_with fail
      refine (among5 p (k + 50) (w8.heap.size) 3 [0, 99, 100] (w8) rfl rfl (hc8.more (by omega)) (by omega) (by decide) (by decide) (i64_lit (by decide))).mono ?_
      rintro e w9 ⟨y9, rfl, hy9, hc9, hg9⟩
      have Iy9 := i64_lit (l := [0, 99, 100]) (by decide) y9 hy9
      clear hy9
      clear u0 u1 u2 u3 u4
      replace r4 := r4.mark hg9 (fun z hz => by cases hz; omega)
      replace r5 := r5.mark hg9 (fun z hz => by cases hz; omega)
      replace HG := grown_trans HG hg9
      replace hc9 := hc9.more (show _ ≤ k + 100 by omega)
      clear hg9 hc8
      have u0 := r5.cell 0
      have u1 := r5.cell 1
      have u2 := r5.cell 2
      have u3 := r5.cell 3
      have u4 := r5.cell 4
      have g0 := r5.frozen 0
      have g1 := r5.frozen 1
      have g2 := r5.frozen 2
      have g3 := r5.frozen 3
      have g4 := r5.frozen 4
      have v0 := r4.cell 0
      have v1 := r4.cell 1
      have v2 := r4.cell 2
      have v3 := r4.cell 3
      have v4 := r4.cell 4
      have f0 := r4.frozen 0
      have f1 := r4.frozen 1
      have f2 := r4.frozen 2
      have f3 := r4.frozen 3
      have f4 := r4.frozen 4
      go_wp2
      refine bodyPost_ret (v := .agg #[.int .i64 y9, .int .i64 day, .int .i64 y1, .int .i64 q3, .int .i64 y2]) (by first | (simp [results, Try.results43, go_sem, v0, v1, v2, v3, v4]; done) | simp [results, Try.results43, go_sem, *]) rfl ⟨⟨y9, day, y1, q3, y2⟩, rfl, ⟨Iy9, Id, Iy1, Iq3, Iy2⟩, (cur_set (a := ⟨w.heap.size, 4, none⟩) (cur_set (a := ⟨w.heap.size, 3, none⟩) (cur_set (a := ⟨w.heap.size, 2, none⟩) (cur_set (a := ⟨w.heap.size, 1, none⟩) (cur_set (a := ⟨w.heap.size, 0, none⟩) (cur_set (a := ⟨P5, 0, none⟩) hc9 hp5 _) hpw _) hpw _) hpw _) hpw _) hpw _), (grown_set (a := ⟨w.heap.size, 4, none⟩) (grown_set (a := ⟨w.heap.size, 3, none⟩) (grown_set (a := ⟨w.heap.size, 2, none⟩) (grown_set (a := ⟨w.heap.size, 1, none⟩) (grown_set (a := ⟨w.heap.size, 0, none⟩) (grown_set (a := ⟨P5, 0, none⟩) HG hg5 _) (Nat.le_refl _) _) (Nat.le_refl _) _) (Nat.le_refl _) _) (Nat.le_refl _) _) (Nat.le_refl _) _)⟩
    by_cases hx1 : x = 1
    · subst hx1
      clear hx0
      have u0 := r5.cell 0
      have u1 := r5.cell 1
      have u2 := r5.cell 2
      have u3 := r5.cell 3
      have u4 := r5.cell 4
      go_wp2_with fail
      refine (among5 p (k + 50) (w8.heap.size) 2 [-1, 4001] (w8) rfl rfl (hc8.more (by omega)) (by omega) (by decide) (by decide) (i64_lit (by decide))).mono ?_
      rintro e w9 ⟨y9, rfl, hy9, hc9, hg9⟩
      have Iy9 := i64_lit (l := [-1, 4001]) (by decide) y9 hy9
      clear hy9
      clear u0 u1 u2 u3 u4
      replace r4 := r4.mark hg9 (fun z hz => by cases hz; omega)
      replace r5 := r5.mark hg9 (fun z hz => by cases hz; omega)
      replace HG := grown_trans HG hg9
      replace hc9 := hc9.more (show _ ≤ k + 100 by omega)
      clear hg9 hc8
      have u0 := r5.cell 0
      have u1 := r5.cell 1
      have u2 := r5.cell 2
      have u3 := r5.cell 3
      have u4 := r5.cell 4
      have g0 := r5.frozen 0
      have g1 := r5.frozen 1
      have g2 := r5.frozen 2
      have g3 := r5.frozen 3
      have g4 := r5.frozen 4
      have v0 := r4.cell 0
      have v1 := r4.cell 1
      have v2 := r4.cell 2
      have v3 := r4.cell 3
      have v4 := r4.cell 4
      have f0 := r4.frozen 0
      have f1 := r4.frozen 1
      have f2 := r4.frozen 2
      have f3 := r4.frozen 3
      have f4 := r4.frozen 4
      go_wp2
      refine bodyPost_ret (v := .agg #[.int .i64 wv, .int .i64 y9, .int .i64 y1, .int .i64 q3, .int .i64 y2]) (by first | (simp [results, Try.results43, go_sem, v0, v1, v2, v3, v4]; done) | simp [results, Try.results43, go_sem, *]) rfl ⟨⟨wv, y9, y1, q3, y2⟩, rfl, ⟨Iw, Iy9, Iy1, Iq3, Iy2⟩, (cur_set (a := ⟨w.heap.size, 4, none⟩) (cur_set (a := ⟨w.heap.size, 3, none⟩) (cur_set (a := ⟨w.heap.size, 2, none⟩) (cur_set (a := ⟨w.heap.size, 1, none⟩) (cur_set (a := ⟨w.heap.size, 0, none⟩) (cur_set (a := ⟨P5, 1, none⟩) hc9 hp5 _) hpw _) hpw _) hpw _) hpw _) hpw _), (grown_set (a := ⟨w.heap.size, 4, none⟩) (grown_set (a := ⟨w.heap.size, 3, none⟩) (grown_set (a := ⟨w.heap.size, 2, none⟩) (grown_set (a := ⟨w.heap.size, 1, none⟩) (grown_set (a := ⟨w.heap.size, 0, none⟩) (grown_set (a := ⟨P5, 1, none⟩) HG hg5 _) (Nat.le_refl _) _) (Nat.le_refl _) _) (Nat.le_refl _) _) (Nat.le_refl _) _) (Nat.le_refl _) _)⟩
    by_cases hx2 : x = 2
    · subst hx2
      clear hx0 hx1
      have u0 := r5.cell 0
      have u1 := r5.cell 1
      have u2 := r5.cell 2
      have u3 := r5.cell 3
      have u4 := r5.cell 4
      go_wp2_with fail
      refine (among5 p (k + 50) (w8.heap.size) 2 [-1, 12001] (w8) rfl rfl (hc8.more (by omega)) (by omega) (by decide) (by decide) (i64_lit (by decide))).mono ?_
      rintro e w9 ⟨y9, rfl, hy9, hc9, hg9⟩
      have Iy9 := i64_lit (l := [-1, 12001]) (by decide) y9 hy9
      clear hy9
      clear u0 u1 u2 u3 u4
      replace r4 := r4.mark hg9 (fun z hz => by cases hz; omega)
      replace r5 := r5.mark hg9 (fun z hz => by cases hz; omega)
      replace HG := grown_trans HG hg9
      replace hc9 := hc9.more (show _ ≤ k + 100 by omega)
      clear hg9 hc8
      have u0 := r5.cell 0
      have u1 := r5.cell 1
      have u2 := r5.cell 2
      have u3 := r5.cell 3
      have u4 := r5.cell 4
      have g0 := r5.frozen 0
      have g1 := r5.frozen 1
      have g2 := r5.frozen 2
      have g3 := r5.frozen 3
      have g4 := r5.frozen 4
      have v0 := r4.cell 0
      have v1 := r4.cell 1
      have v2 := r4.cell 2
      have v3 := r4.cell 3
      have v4 := r4.cell 4
      have f0 := r4.frozen 0
      have f1 := r4.frozen 1
      have f2 := r4.frozen 2
      have f3 := r4.frozen 3
      have f4 := r4.frozen 4
      go_wp2
      refine bodyPost_ret (v := .agg #[.int .i64 wv, .int .i64 day, .int .i64 y9, .int .i64 q3, .int .i64 y2]) (by first | (simp [results, Try.results43, go_sem, v0, v1, v2, v3, v4]; done) | simp [results, Try.results43, go_sem, *]) rfl ⟨⟨wv, day, y9, q3, y2⟩, rfl, ⟨Iw, Id, Iy9, Iq3, Iy2⟩, (cur_set (a := ⟨w.heap.size, 4, none⟩) (cur_set (a := ⟨w.heap.size, 3, none⟩) (cur_set (a := ⟨w.heap.size, 2, none⟩) (cur_set (a := ⟨w.heap.size, 1, none⟩) (cur_set (a := ⟨w.heap.size, 0, none⟩) (cur_set (a := ⟨P5, 2, none⟩) hc9 hp5 _) hpw _) hpw _) hpw _) hpw _) hpw _), (grown_set (a := ⟨w.heap.size, 4, none⟩) (grown_set (a := ⟨w.heap.size, 3, none⟩) (grown_set (a := ⟨w.heap.size, 2, none⟩) (grown_set (a := ⟨w.heap.size, 1, none⟩) (grown_set (a := ⟨w.heap.size, 0, none⟩) (grown_set (a := ⟨P5, 2, none⟩) HG hg5 _) (Nat.le_refl _) _) (Nat.le_refl _) _) (Nat.le_refl _) _) (Nat.le_refl _) _) (Nat.le_refl _) _)⟩
    by_cases hx3 : x = 3
    · subst hx3
      clear hx0 hx1 hx2
      have u0 := r5.cell 0
      have u1 := r5.cell 1
      have u2 := r5.cell 2
      have u3 := r5.cell 3
      have u4 := r5.cell 4
      have ew : IntKind.i64.wrap (y1 + 1) = y1 + 1 := IntWalk.i64_in _ (by omega)
      have hl9 : ∀ z ∈ ([-1, y1 + 1] : List Int), I64 z := fun z hz => by
        simp only [List.mem_cons, List.not_mem_nil, or_false] at hz
        rcases hz with rfl | rfl <;> exact ⟨by omega, by omega⟩
      go_wp2_with fail
      refine (among5 p (k + 50) (w8.heap.size) 2 ([-1, y1 + 1] : List Int) (w8) rfl rfl (hc8.more (by omega)) (by omega) (by simp) (by simp) hl9).mono ?_
      rintro e w9 ⟨y9, rfl, hy9, hc9, hg9⟩
      have Iy9 := hl9 y9 hy9
      clear ew hl9 hy9
      clear u0 u1 u2 u3 u4
      replace r4 := r4.mark hg9 (fun z hz => by cases hz; omega)
      replace r5 := r5.mark hg9 (fun z hz => by cases hz; omega)
      replace HG := grown_trans HG hg9
      replace hc9 := hc9.more (show _ ≤ k + 100 by omega)
      clear hg9 hc8
      have u0 := r5.cell 0
      have u1 := r5.cell 1
      have u2 := r5.cell 2
      have u3 := r5.cell 3
      have u4 := r5.cell 4
      have g0 := r5.frozen 0
      have g1 := r5.frozen 1
      have g2 := r5.frozen 2
      have g3 := r5.frozen 3
      have g4 := r5.frozen 4
      have v0 := r4.cell 0
      have v1 := r4.cell 1
      have v2 := r4.cell 2
      have v3 := r4.cell 3
      have v4 := r4.cell 4
      have f0 := r4.frozen 0
      have f1 := r4.frozen 1
      have f2 := r4.frozen 2
      have f3 := r4.frozen 3
      have f4 := r4.frozen 4
      go_wp2
      refine bodyPost_ret (v := .agg #[.int .i64 wv, .int .i64 day, .int .i64 y1, .int .i64 y9, .int .i64 y2]) (by first | (simp [results, Try.results43, go_sem, v0, v1, v2, v3, v4]; done) | simp [results, Try.results43, go_sem, *]) rfl ⟨⟨wv, day, y1, y9, y2⟩, rfl, ⟨Iw, Id, Iy1, Iy9, Iy2⟩, (cur_set (a := ⟨w.heap.size, 4, none⟩) (cur_set (a := ⟨w.heap.size, 3, none⟩) (cur_set (a := ⟨w.heap.size, 2, none⟩) (cur_set (a := ⟨w.heap.size, 1, none⟩) (cur_set (a := ⟨w.heap.size, 0, none⟩) (cur_set (a := ⟨P5, 3, none⟩) hc9 hp5 _) hpw _) hpw _) hpw _) hpw _) hpw _), (grown_set (a := ⟨w.heap.size, 4, none⟩) (grown_set (a := ⟨w.heap.size, 3, none⟩) (grown_set (a := ⟨w.heap.size, 2, none⟩) (grown_set (a := ⟨w.heap.size, 1, none⟩) (grown_set (a := ⟨w.heap.size, 0, none⟩) (grown_set (a := ⟨P5, 3, none⟩) HG hg5 _) (Nat.le_refl _) _) (Nat.le_refl _) _) (Nat.le_refl _) _) (Nat.le_refl _) _) (Nat.le_refl _) _)⟩
    by_cases hx4 : x = 4
    · subst hx4
      clear hx0 hx1 hx2 hx3
      have u0 := r5.cell 0
      have u1 := r5.cell 1
      have u2 := r5.cell 2
      have u3 := r5.cell 3
      have u4 := r5.cell 4
      go_wp2_with fail
      refine (among5 p (k + 50) (w8.heap.size) 2 [-1, 13] (w8) rfl rfl (hc8.more (by omega)) (by omega) (by decide) (by decide) (i64_lit (by decide))).mono ?_
      rintro e w9 ⟨y9, rfl, hy9, hc9, hg9⟩
      have Iy9 := i64_lit (l := [-1, 13]) (by decide) y9 hy9
      clear hy9
      clear u0 u1 u2 u3 u4
      replace r4 := r4.mark hg9 (fun z hz => by cases hz; omega)
      replace r5 := r5.mark hg9 (fun z hz => by cases hz; omega)
      replace HG := grown_trans HG hg9
      replace hc9 := hc9.more (show _ ≤ k + 100 by omega)
      clear hg9 hc8
      have u0 := r5.cell 0
      have u1 := r5.cell 1
      have u2 := r5.cell 2
      have u3 := r5.cell 3
      have u4 := r5.cell 4
      have g0 := r5.frozen 0
      have g1 := r5.frozen 1
      have g2 := r5.frozen 2
      have g3 := r5.frozen 3
      have g4 := r5.frozen 4
      have v0 := r4.cell 0
      have v1 := r4.cell 1
      have v2 := r4.cell 2
      have v3 := r4.cell 3
      have v4 := r4.cell 4
      have f0 := r4.frozen 0
      have f1 := r4.frozen 1
      have f2 := r4.frozen 2
      have f3 := r4.frozen 3
      have f4 := r4.frozen 4
      go_wp2
      refine bodyPost_ret (v := .agg #[.int .i64 wv, .int .i64 day, .int .i64 y1, .int .i64 q3, .int .i64 y9]) (by first | (simp [results, Try.results43, go_sem, v0, v1, v2, v3, v4]; done) | simp [results, Try.results43, go_sem, *]) rfl ⟨⟨wv, day, y1, q3, y9⟩, rfl, ⟨Iw, Id, Iy1, Iq3, Iy9⟩, (cur_set (a := ⟨w.heap.size, 4, none⟩) (cur_set (a := ⟨w.heap.size, 3, none⟩) (cur_set (a := ⟨w.heap.size, 2, none⟩) (cur_set (a := ⟨w.heap.size, 1, none⟩) (cur_set (a := ⟨w.heap.size, 0, none⟩) (cur_set (a := ⟨P5, 4, none⟩) hc9 hp5 _) hpw _) hpw _) hpw _) hpw _) hpw _), (grown_set (a := ⟨w.heap.size, 4, none⟩) (grown_set (a := ⟨w.heap.size, 3, none⟩) (grown_set (a := ⟨w.heap.size, 2, none⟩) (grown_set (a := ⟨w.heap.size, 1, none⟩) (grown_set (a := ⟨w.heap.size, 0, none⟩) (grown_set (a := ⟨P5, 4, none⟩) HG hg5 _) (Nat.le_refl _) _) (Nat.le_refl _) _) (Nat.le_refl _) _) (Nat.le_refl _) _) (Nat.le_refl _) _)⟩
    have hx0' : (x == 0) = false := by simpa using hx0
    have hx1' : (x == 1) = false := by simpa using hx1
    have hx2' : (x == 2) = false := by simpa using hx2
    have hx3' : (x == 3) = false := by simpa using hx3
    have hx4' : (x == 4) = false := by simpa using hx4
    clear hx0 hx1 hx2 hx3 hx4
    have hc9 := hc8.more (show _ ≤ k + 100 by omega)
    clear hc8
    have u0 := r5.cell 0
    have u1 := r5.cell 1
    have u2 := r5.cell 2
    have u3 := r5.cell 3
    have u4 := r5.cell 4
    have g0 := r5.frozen 0
    have g1 := r5.frozen 1
    have g2 := r5.frozen 2
    have g3 := r5.frozen 3
    have g4 := r5.frozen 4
    have v0 := r4.cell 0
    have v1 := r4.cell 1
    have v2 := r4.cell 2
    have v3 := r4.cell 3
    have v4 := r4.cell 4
    have f0 := r4.frozen 0
    have f1 := r4.frozen 1
    have f2 := r4.frozen 2
    have f3 := r4.frozen 3
    have f4 := r4.frozen 4
    go_wp2
    refine bodyPost_ret (v := .agg #[.int .i64 wv, .int .i64 day, .int .i64 y1, .int .i64 q3, .int .i64 y2]) (by first | (simp [results, Try.results43, go_sem, v0, v1, v2, v3, v4]; done) | simp [results, Try.results43, go_sem, *]) rfl ⟨⟨wv, day, y1, q3, y2⟩, rfl, ⟨Iw, Id, Iy1, Iq3, Iy2⟩, (cur_set (a := ⟨w.heap.size, 4, none⟩) (cur_set (a := ⟨w.heap.size, 3, none⟩) (cur_set (a := ⟨w.heap.size, 2, none⟩) (cur_set (a := ⟨w.heap.size, 1, none⟩) (cur_set (a := ⟨w.heap.size, 0, none⟩) hc9 hpw _) hpw _) hpw _) hpw _) hpw _), (grown_set (a := ⟨w.heap.size, 4, none⟩) (grown_set (a := ⟨w.heap.size, 3, none⟩) (grown_set (a := ⟨w.heap.size, 2, none⟩) (grown_set (a := ⟨w.heap.size, 1, none⟩) (grown_set (a := ⟨w.heap.size, 0, none⟩) HG (Nat.le_refl _) _) (Nat.le_refl _) _) (Nat.le_refl _) _) (Nat.le_refl _) _) (Nat.le_refl _) _)⟩
end Go.Proofs.Ytihhlldpdfihfaa
