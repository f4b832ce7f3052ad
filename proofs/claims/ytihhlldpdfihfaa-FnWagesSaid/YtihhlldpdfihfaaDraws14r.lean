/- The draw of rates. Condition: few draws. -/
import Derived.Test.YtihhlldpdfihfaaDraws14
import Derived.Test.YtihhlldpdfihfaaRatesData
namespace Go.Proofs.Ytihhlldpdfihfaa
open Go.RowKit

/-- What a draw of rates leaves. -/
def DrewRates (w : World) (p k : Nat) (e : Ending) (w' : World) : Prop := ∃ s : RatesR, e = .returned (.agg #[.int .i64 s.f0, .int .i64 s.f1, .int .i64 s.f2, .int .i64 s.f3, .int .i64 s.f4]) ∧ s.ok ∧ Cur w' p k ∧ w.grownBy w' (some p)
set_option maxRecDepth 100000 in
set_option maxHeartbeats 16000000 in
theorem rates14_any (p k : Nat) (w : World) (h : Cur w p k) (hk : k + 100 ≤ 4294967296) :
    Calls Try.prog 22 #[.pointer (some ⟨p, 0, none⟩)] w (DrewRates w p (k + 100)) := by
  have hpw := h.lt
  have r4 := Blk.new w #[.int .i64 0, .int .i64 0, .int .i64 0, .int .i64 0, .int .i64 0] 25
  have hb0 : Below w.heap.size w (w.alloc (.cells #[.int .i64 0, .int .i64 0, .int .i64 0, .int .i64 0, .int .i64 0] 25)) := (Below.refl _ _).alloc (Nat.le_refl _) _
  have HG := below_grown (row := some p) hb0
  have hc0 := h.all hb0
  clear h hb0
  go_enter Try.func22, Try.ntmps22
  go_wp2_with fail
  refine (among5 p (k + 0) (w.heap.size + 1) 4 [0, 250, 333, 10000] (w.alloc (.cells #[.int .i64 0, .int .i64 0, .int .i64 0, .int .i64 0, .int .i64 0] 25)) (by simp) rfl hc0 (by omega) (by decide) (by decide) (i64_lit (by decide))).mono ?_
  rintro e w1 ⟨y1, rfl, hy1, hc1, hg1⟩
  have Iy1 := i64_lit (l := [0, 250, 333, 10000]) (by decide) y1 hy1
  replace r4 := r4.mark hg1 (fun z hz => by cases hz; omega)
  replace HG := grown_trans HG hg1
  clear hc0 hg1
  clear hy1
  go_wp2_with fail
  refine (among5 p (k + 2) (w1.heap.size) 2 [0, 900] (w1) rfl rfl hc1 (by omega) (by decide) (by decide) (i64_lit (by decide))).mono ?_
  rintro e w2 ⟨y2, rfl, hy2, hc2, hg2⟩
  have Iy2 := i64_lit (l := [0, 900]) (by decide) y2 hy2
  replace r4 := r4.mark hg2 (fun z hz => by cases hz; omega)
  replace HG := grown_trans HG hg2
  clear hc1 hg2
  clear hy2
  go_wp2_with fail
  refine (among5 p (k + 4) (w2.heap.size) 3 [0, 1000, 10000] (w2) rfl rfl hc2 (by omega) (by decide) (by decide) (i64_lit (by decide))).mono ?_
  rintro e w3 ⟨y3, rfl, hy3, hc3, hg3⟩
  have Iy3 := i64_lit (l := [0, 1000, 10000]) (by decide) y3 hy3
  replace r4 := r4.mark hg3 (fun z hz => by cases hz; omega)
  replace HG := grown_trans HG hg3
  clear hc2 hg3
  clear hy3
  go_wp2_with fail
  refine (among5 p (k + 6) (w3.heap.size) 2 [0, 500] (w3) rfl rfl hc3 (by omega) (by decide) (by decide) (i64_lit (by decide))).mono ?_
  rintro e w4 ⟨y4, rfl, hy4, hc4, hg4⟩
  have Iy4 := i64_lit (l := [0, 500]) (by decide) y4 hy4
  replace r4 := r4.mark hg4 (fun z hz => by cases hz; omega)
  replace HG := grown_trans HG hg4
  clear hc3 hg4
  clear hy4
  go_wp2_with fail
  refine (among5 p (k + 8) (w4.heap.size) 3 [0, 100, 10000] (w4) rfl rfl hc4 (by omega) (by decide) (by decide) (i64_lit (by decide))).mono ?_
  rintro e w5 ⟨y5, rfl, hy5, hc5, hg5⟩
  have Iy5 := i64_lit (l := [0, 100, 10000]) (by decide) y5 hy5
  replace r4 := r4.mark hg5 (fun z hz => by cases hz; omega)
  replace HG := grown_trans HG hg5
  clear hc4 hg5
  clear hy5
  have h2lt : w.heap.size < w5.heap.size := r4.lt
  have ob := (Below.refl w5.heap.size w5).alloc (Nat.le_refl _) (.cells #[.int .i64 y1, .int .i64 y2, .int .i64 y3, .int .i64 y4, .int .i64 y5] 25)
  have r5 := Blk.new w5 #[.int .i64 y1, .int .i64 y2, .int .i64 y3, .int .i64 y4, .int .i64 y5] 25
  replace r4 := r4.all ob
  replace hc5 := hc5.all ob
  replace HG := grown_trans HG (below_grown (row := some p) ob)
  clear ob
  have hp5 : p < w5.heap.size := Nat.lt_trans hpw h2lt
  have hg5 : w.heap.size ≤ w5.heap.size := Nat.le_of_lt h2lt
  go_wp2_with fail
  refine (pick_any p (k + 10) 60 (w5.alloc (.cells #[.int .i64 y1, .int .i64 y2, .int .i64 y3, .int .i64 y4, .int .i64 y5] 25)) hc5 (by omega) (by omega) (by omega)).mono ?_
  rintro e w8 ⟨x, rfl, ⟨x0, x1⟩, hc8, hg8⟩
  replace r4 := r4.mark hg8 (fun z hz => by cases hz; omega)
  replace r5 := r5.mark hg8 (fun z hz => by cases hz; omega)
  replace HG := grown_trans HG hg8
  clear hc5 hg8 x0 x1
  by_cases hx0 : x = 0
  · subst hx0
    have u0 := r5.cell 0
    have u1 := r5.cell 1
    have u2 := r5.cell 2
    have u3 := r5.cell 3
    have u4 := r5.cell 4
    go_wp2_with fail
    refine (among5 p (k + 50) (w8.heap.size) 2 [-1, 10001] (w8) rfl rfl (hc8.more (by omega)) (by omega) (by decide) (by decide) (i64_lit (by decide))).mono ?_
    rintro e w9 ⟨y9, rfl, hy9, hc9, hg9⟩
    have Iy9 := i64_lit (l := [-1, 10001]) (by decide) y9 hy9
    clear hy9
    clear u0 u1 u2 u3 u4
    replace r4 := r4.mark hg9 (fun z hz => by cases hz; omega)
    replace r5 := r5.mark hg9 (fun z hz => by cases hz; omega)
    replace HG := grown_trans HG hg9
    replace hc9 := hc9.more (show _ ≤ k + 100 by omega)
    clear hg9 hc8
    have u0 := r5.cell 0
    have u1 := r5.cell 1
    have u2 := r5.cell 2
    have u3 := r5.cell 3
    have u4 := r5.cell 4
    have g0 := r5.frozen 0
    have g1 := r5.frozen 1
    have g2 := r5.frozen 2
    have g3 := r5.frozen 3
    have g4 := r5.frozen 4
    have v0 := r4.cell 0
    have v1 := r4.cell 1
    have v2 := r4.cell 2
    have v3 := r4.cell 3
    have v4 := r4.cell 4
    have f0 := r4.frozen 0
    have f1 := r4.frozen 1
    have f2 := r4.frozen 2
    have f3 := r4.frozen 3
    have f4 := r4.frozen 4
    go_wp2
    refine bodyPost_ret (v := .agg #[.int .i64 y9, .int .i64 y2, .int .i64 y3, .int .i64 y4, .int .i64 y5]) (by first | (simp [results, Try.results22, go_sem, v0, v1, v2, v3, v4]; done) | simp [results, Try.results22, go_sem, *]) rfl ⟨⟨y9, y2, y3, y4, y5⟩, rfl, ⟨Iy9, Iy2, Iy3, Iy4, Iy5⟩, (cur_set (a := ⟨w.heap.size, 4, none⟩) (cur_set (a := ⟨w.heap.size, 3, none⟩) (cur_set (a := ⟨w.heap.size, 2, none⟩) (cur_set (a := ⟨w.heap.size, 1, none⟩) (cur_set (a := ⟨w.heap.size, 0, none⟩) (cur_set (a := ⟨w5.heap.size, 0, none⟩) hc9 hp5 _) hpw _) hpw _) hpw _) hpw _) hpw _), (grown_set (a := ⟨w.heap.size, 4, none⟩) (grown_set (a := ⟨w.heap.size, 3, none⟩) (grown_set (a := ⟨w.heap.size, 2, none⟩) (grown_set (a := ⟨w.heap.size, 1, none⟩) (grown_set (a := ⟨w.heap.size, 0, none⟩) (grown_set (a := ⟨w5.heap.size, 0, none⟩) HG hg5 _) (Nat.le_refl _) _) (Nat.le_refl _) _) (Nat.le_refl _) _) (Nat.le_refl _) _) (Nat.le_refl _) _)⟩
  by_cases hx1 : x = 1
  · subst hx1
    clear hx0
    have u0 := r5.cell 0
    have u1 := r5.cell 1
    have u2 := r5.cell 2
    have u3 := r5.cell 3
    have u4 := r5.cell 4
    go_wp2_with fail
    refine (among5 p (k + 50) (w8.heap.size) 2 [-1, 10001] (w8) rfl rfl (hc8.more (by omega)) (by omega) (by decide) (by decide) (i64_lit (by decide))).mono ?_
    rintro e w9 ⟨y9, rfl, hy9, hc9, hg9⟩
    have Iy9 := i64_lit (l := [-1, 10001]) (by decide) y9 hy9
    clear hy9
    clear u0 u1 u2 u3 u4
    replace r4 := r4.mark hg9 (fun z hz => by cases hz; omega)
    replace r5 := r5.mark hg9 (fun z hz => by cases hz; omega)
    replace HG := grown_trans HG hg9
    replace hc9 := hc9.more (show _ ≤ k + 100 by omega)
    clear hg9 hc8
    have u0 := r5.cell 0
    have u1 := r5.cell 1
    have u2 := r5.cell 2
    have u3 := r5.cell 3
    have u4 := r5.cell 4
    have g0 := r5.frozen 0
    have g1 := r5.frozen 1
    have g2 := r5.frozen 2
    have g3 := r5.frozen 3
    have g4 := r5.frozen 4
    have v0 := r4.cell 0
    have v1 := r4.cell 1
    have v2 := r4.cell 2
    have v3 := r4.cell 3
    have v4 := r4.cell 4
    have f0 := r4.frozen 0
    have f1 := r4.frozen 1
    have f2 := r4.frozen 2
    have f3 := r4.frozen 3
    have f4 := r4.frozen 4
    go_wp2
    refine bodyPost_ret (v := .agg #[.int .i64 y1, .int .i64 y9, .int .i64 y3, .int .i64 y4, .int .i64 y5]) (by first | (simp [results, Try.results22, go_sem, v0, v1, v2, v3, v4]; done) | simp [results, Try.results22, go_sem, *]) rfl ⟨⟨y1, y9, y3, y4, y5⟩, rfl, ⟨Iy1, Iy9, Iy3, Iy4, Iy5⟩, (cur_set (a := ⟨w.heap.size, 4, none⟩) (cur_set (a := ⟨w.heap.size, 3, none⟩) (cur_set (a := ⟨w.heap.size, 2, none⟩) (cur_set (a := ⟨w.heap.size, 1, none⟩) (cur_set (a := ⟨w.heap.size, 0, none⟩) (cur_set (a := ⟨w5.heap.size, 1, none⟩) hc9 hp5 _) hpw _) hpw _) hpw _) hpw _) hpw _), (grown_set (a := ⟨w.heap.size, 4, none⟩) (grown_set (a := ⟨w.heap.size, 3, none⟩) (grown_set (a := ⟨w.heap.size, 2, none⟩) (grown_set (a := ⟨w.heap.size, 1, none⟩) (grown_set (a := ⟨w.heap.size, 0, none⟩) (grown_set (a := ⟨w5.heap.size, 1, none⟩) HG hg5 _) (Nat.le_refl _) _) (Nat.le_refl _) _) (Nat.le_refl _) _) (Nat.le_refl _) _) (Nat.le_refl _) _)⟩
  by_cases hx2 : x = 2
  · subst hx2
    clear hx0 hx1
    have u0 := r5.cell 0
    have u1 := r5.cell 1
    have u2 := r5.cell 2
    have u3 := r5.cell 3
    have u4 := r5.cell 4
    go_wp2_with fail
    refine (among5 p (k + 50) (w8.heap.size) 2 [-1, 10001] (w8) rfl rfl (hc8.more (by omega)) (by omega) (by decide) (by decide) (i64_lit (by decide))).mono ?_
    rintro e w9 ⟨y9, rfl, hy9, hc9, hg9⟩
    have Iy9 := i64_lit (l := [-1, 10001]) (by decide) y9 hy9
    clear hy9
    clear u0 u1 u2 u3 u4
    replace r4 := r4.mark hg9 (fun z hz => by cases hz; omega)
    replace r5 := r5.mark hg9 (fun z hz => by cases hz; omega)
    replace HG := grown_trans HG hg9
    replace hc9 := hc9.more (show _ ≤ k + 100 by omega)
    clear hg9 hc8
    have u0 := r5.cell 0
    have u1 := r5.cell 1
    have u2 := r5.cell 2
    have u3 := r5.cell 3
    have u4 := r5.cell 4
    have g0 := r5.frozen 0
    have g1 := r5.frozen 1
    have g2 := r5.frozen 2
    have g3 := r5.frozen 3
    have g4 := r5.frozen 4
    have v0 := r4.cell 0
    have v1 := r4.cell 1
    have v2 := r4.cell 2
    have v3 := r4.cell 3
    have v4 := r4.cell 4
    have f0 := r4.frozen 0
    have f1 := r4.frozen 1
    have f2 := r4.frozen 2
    have f3 := r4.frozen 3
    have f4 := r4.frozen 4
    go_wp2
    refine bodyPost_ret (v := .agg #[.int .i64 y1, .int .i64 y2, .int .i64 y9, .int .i64 y4, .int .i64 y5]) (by first | (simp [results, Try.results22, go_sem, v0, v1, v2, v3, v4]; done) | simp [results, Try.results22, go_sem, *]) rfl ⟨⟨y1, y2, y9, y4, y5⟩, rfl, ⟨Iy1, Iy2, Iy9, Iy4, Iy5⟩, (cur_set (a := ⟨w.heap.size, 4, none⟩) (cur_set (a := ⟨w.heap.size, 3, none⟩) (cur_set (a := ⟨w.heap.size, 2, none⟩) (cur_set (a := ⟨w.heap.size, 1, none⟩) (cur_set (a := ⟨w.heap.size, 0, none⟩) (cur_set (a := ⟨w5.heap.size, 2, none⟩) hc9 hp5 _) hpw _) hpw _) hpw _) hpw _) hpw _), (grown_set (a := ⟨w.heap.size, 4, none⟩) (grown_set (a := ⟨w.heap.size, 3, none⟩) (grown_set (a := ⟨w.heap.size, 2, none⟩) (grown_set (a := ⟨w.heap.size, 1, none⟩) (grown_set (a := ⟨w.heap.size, 0, none⟩) (grown_set (a := ⟨w5.heap.size, 2, none⟩) HG hg5 _) (Nat.le_refl _) _) (Nat.le_refl _) _) (Nat.le_refl _) _) (Nat.le_refl _) _) (Nat.le_refl _) _)⟩
  by_cases hx3 : x = 3
  · subst hx3
    clear hx0 hx1 hx2
    have u0 := r5.cell 0
    have u1 := r5.cell 1
    have u2 := r5.cell 2
    have u3 := r5.cell 3
    have u4 := r5.cell 4
    go_wp2_with fail
    refine (among5 p (k + 50) (w8.heap.size) 2 [-1, 10001] (w8) rfl rfl (hc8.more (by omega)) (by omega) (by decide) (by decide) (i64_lit (by decide))).mono ?_
    rintro e w9 ⟨y9, rfl, hy9, hc9, hg9⟩
    have Iy9 := i64_lit (l := [-1, 10001]) (by decide) y9 hy9
    clear hy9
    clear u0 u1 u2 u3 u4
    replace r4 := r4.mark hg9 (fun z hz => by cases hz; omega)
    replace r5 := r5.mark hg9 (fun z hz => by cases hz; omega)
    replace HG := grown_trans HG hg9
    replace hc9 := hc9.more (show _ ≤ k + 100 by omega)
    clear hg9 hc8
    have u0 := r5.cell 0
    have u1 := r5.cell 1
    have u2 := r5.cell 2
    have u3 := r5.cell 3
    have u4 := r5.cell 4
    have g0 := r5.frozen 0
    have g1 := r5.frozen 1
    have g2 := r5.frozen 2
    have g3 := r5.frozen 3
    have g4 := r5.frozen 4
    have v0 := r4.cell 0
    have v1 := r4.cell 1
    have v2 := r4.cell 2
    have v3 := r4.cell 3
    have v4 := r4.cell 4
    have f0 := r4.frozen 0
    have f1 := r4.frozen 1
    have f2 := r4.frozen 2
    have f3 := r4.frozen 3
    have f4 := r4.frozen 4
    go_wp2
    refine bodyPost_ret (v := .agg #[.int .i64 y1, .int .i64 y2, .int .i64 y3, .int .i64 y9, .int .i64 y5]) (by first | (simp [results, Try.results22, go_sem, v0, v1, v2, v3, v4]; done) | simp [results, Try.results22, go_sem, *]) rfl ⟨⟨y1, y2, y3, y9, y5⟩, rfl, ⟨Iy1, Iy2, Iy3, Iy9, Iy5⟩, (cur_set (a := ⟨w.heap.size, 4, none⟩) (cur_set (a := ⟨w.heap.size, 3, none⟩) (cur_set (a := ⟨w.heap.size, 2, none⟩) (cur_set (a := ⟨w.heap.size, 1, none⟩) (cur_set (a := ⟨w.heap.size, 0, none⟩) (cur_set (a := ⟨w5.heap.size, 3, none⟩) hc9 hp5 _) hpw _) hpw _) hpw _) hpw _) hpw _), (grown_set (a := ⟨w.heap.size, 4, none⟩) (grown_set (a := ⟨w.heap.size, 3, none⟩) (grown_set (a := ⟨w.heap.size, 2, none⟩) (grown_set (a := ⟨w.heap.size, 1, none⟩) (grown_set (a := ⟨w.heap.size, 0, none⟩) (grown_set (a := ⟨w5.heap.size, 3, none⟩) HG hg5 _) (Nat.le_refl _) _) (Nat.le_refl _) _) (Nat.le_refl _) _) (Nat.le_refl _) _) (Nat.le_refl _) _)⟩
  by_cases hx4 : x = 4
  · subst hx4
    clear hx0 hx1 hx2 hx3
    have u0 := r5.cell 0
    have u1 := r5.cell 1
    have u2 := r5.cell 2
    have u3 := r5.cell 3
    have u4 := r5.cell 4
    go_wp2_with fail
    refine (among5 p (k + 50) (w8.heap.size) 2 [-1, 10001] (w8) rfl rfl (hc8.more (by omega)) (by omega) (by decide) (by decide) (i64_lit (by decide))).mono ?_
    rintro e w9 ⟨y9, rfl, hy9, hc9, hg9⟩
    have Iy9 := i64_lit (l := [-1, 10001]) (by decide) y9 hy9
    clear hy9
    clear u0 u1 u2 u3 u4
    replace r4 := r4.mark hg9 (fun z hz => by cases hz; omega)
    replace r5 := r5.mark hg9 (fun z hz => by cases hz; omega)
    replace HG := grown_trans HG hg9
    replace hc9 := hc9.more (show _ ≤ k + 100 by omega)
    clear hg9 hc8
    have u0 := r5.cell 0
    have u1 := r5.cell 1
    have u2 := r5.cell 2
    have u3 := r5.cell 3
    have u4 := r5.cell 4
    have g0 := r5.frozen 0
    have g1 := r5.frozen 1
    have g2 := r5.frozen 2
    have g3 := r5.frozen 3
    have g4 := r5.frozen 4
    have v0 := r4.cell 0
    have v1 := r4.cell 1
    have v2 := r4.cell 2
    have v3 := r4.cell 3
    have v4 := r4.cell 4
    have f0 := r4.frozen 0
    have f1 := r4.frozen 1
    have f2 := r4.frozen 2
    have f3 := r4.frozen 3
    have f4 := r4.frozen 4
    go_wp2
    refine bodyPost_ret (v := .agg #[.int .i64 y1, .int .i64 y2, .int .i64 y3, .int .i64 y4, .int .i64 y9]) (by first | (simp [results, Try.results22, go_sem, v0, v1, v2, v3, v4]; done) | simp [results, Try.results22, go_sem, *]) rfl ⟨⟨y1, y2, y3, y4, y9⟩, rfl, ⟨Iy1, Iy2, Iy3, Iy4, Iy9⟩, (cur_set (a := ⟨w.heap.size, 4, none⟩) (cur_set (a := ⟨w.heap.size, 3, none⟩) (cur_set (a := ⟨w.heap.size, 2, none⟩) (cur_set (a := ⟨w.heap.size, 1, none⟩) (cur_set (a := ⟨w.heap.size, 0, none⟩) (cur_set (a := ⟨w5.heap.size, 4, none⟩) hc9 hp5 _) hpw _) hpw _) hpw _) hpw _) hpw _), (grown_set (a := ⟨w.heap.size, 4, none⟩) (grown_set (a := ⟨w.heap.size, 3, none⟩) (grown_set (a := ⟨w.heap.size, 2, none⟩) (grown_set (a := ⟨w.heap.size, 1, none⟩) (grown_set (a := ⟨w.heap.size, 0, none⟩) (grown_set (a := ⟨w5.heap.size, 4, none⟩) HG hg5 _) (Nat.le_refl _) _) (Nat.le_refl _) _) (Nat.le_refl _) _) (Nat.le_refl _) _) (Nat.le_refl _) _)⟩
  have hx0' : (x == 0) = false := by simpa using hx0
  have hx1' : (x == 1) = false := by simpa using hx1
  have hx2' : (x == 2) = false := by simpa using hx2
  have hx3' : (x == 3) = false := by simpa using hx3
  have hx4' : (x == 4) = false := by simpa using hx4
  clear hx0 hx1 hx2 hx3 hx4
  have hc9 := hc8.more (show _ ≤ k + 100 by omega)
  clear hc8
  have u0 := r5.cell 0
  have u1 := r5.cell 1
  have u2 := r5.cell 2
  have u3 := r5.cell 3
  have u4 := r5.cell 4
  have g0 := r5.frozen 0
  have g1 := r5.frozen 1
  have g2 := r5.frozen 2
  have g3 := r5.frozen 3
  have g4 := r5.frozen 4
  have v0 := r4.cell 0
  have v1 := r4.cell 1
  have v2 := r4.cell 2
  have v3 := r4.cell 3
  have v4 := r4.cell 4
  have f0 := r4.frozen 0
  have f1 := r4.frozen 1
  have f2 := r4.frozen 2
  have f3 := r4.frozen 3
  have f4 := r4.frozen 4
  go_wp2
  refine bodyPost_ret (v := .agg #[.int .i64 y1, .int .i64 y2, .int .i64 y3, .int .i64 y4, .int .i64 y5]) (by first | (simp [results, Try.results22, go_sem, v0, v1, v2, v3, v4]; done) | simp [results, Try.results22, go_sem, *]) rfl ⟨⟨y1, y2, y3, y4, y5⟩, rfl, ⟨Iy1, Iy2, Iy3, Iy4, Iy5⟩, (cur_set (a := ⟨w.heap.size, 4, none⟩) (cur_set (a := ⟨w.heap.size, 3, none⟩) (cur_set (a := ⟨w.heap.size, 2, none⟩) (cur_set (a := ⟨w.heap.size, 1, none⟩) (cur_set (a := ⟨w.heap.size, 0, none⟩) hc9 hpw _) hpw _) hpw _) hpw _) hpw _), (grown_set (a := ⟨w.heap.size, 4, none⟩) (grown_set (a := ⟨w.heap.size, 3, none⟩) (grown_set (a := ⟨w.heap.size, 2, none⟩) (grown_set (a := ⟨w.heap.size, 1, none⟩) (grown_set (a := ⟨w.heap.size, 0, none⟩) HG (Nat.le_refl _) _) (Nat.le_refl _) _) (Nat.le_refl _) _) (Nat.le_refl _) _) (Nat.le_refl _) _)⟩
end Go.Proofs.Ytihhlldpdfihfaa
