/- The draw of a weaver. Condition: few draws. -/
import Derived.Test.YtanfblpibomfaaaDrawLit
import Derived.Test.YtanfblpibomfaaaOf0
import Derived.Test.YtanfblpibomfaaaWeavers
import Derived.Test.YtanfblpibomfaaaWeaversS
import Derived.Test.YtanfblpibomfaaaAppF
import Derived.BigQuiet
namespace Go.Proofs.Ytanfblpibomfaaa
open Go.RowKit

/-- What a draw of a weaver leaves. -/
def DrewWeaver (w : World) (p k : Nat) (e : Ending) (w' : World) : Prop := ∃ s : WeaverR, e = .returned (.agg #[.int .i64 s.f0, .string s.f1, .int .i64 s.f2, .int .i64 s.f3, .int .i64 s.f4]) ∧ (s.ok ∧ s.f1.size ≤ 20) ∧ Cur w' p k ∧ w.grownBy w' (some p)
set_option maxRecDepth 100000 in
set_option maxHeartbeats 16000000 in
theorem weaver_any (p k : Nat) (id : Int) (w : World) (h : Cur w p k) (hk : k + 100 ≤ 4294967296) (Iid : I64 id) :
    Calls Try.prog 63 #[.pointer (some ⟨p, 0, none⟩), .int .i64 id] w (DrewWeaver w p (k + 100)) := by
  have hpw := h.lt
  have r4 := Blk.new w #[.int .i64 0, .string ⟨#[]⟩, .int .i64 0, .int .i64 0, .int .i64 0] 40
  have hb0 : Below w.heap.size w (w.alloc (.cells #[.int .i64 0, .string ⟨#[]⟩, .int .i64 0, .int .i64 0, .int .i64 0] 40)) := (Below.refl _ _).alloc (Nat.le_refl _) _
  have HG := below_grown (row := some p) hb0
  have hc0 := h.all hb0
  clear h hb0
  go_enter Try.func63, Try.ntmps63
  go_wp2_with fail
  refine (of_lit p (k + 0) (w.heap.size + 1) 3 [⟨#[97, 121, 115, 101]⟩, ⟨#[100, 105, 108, 101, 107]⟩, ⟨#[111, 109, 105, 100]⟩] (w.alloc (.cells #[.int .i64 0, .string ⟨#[]⟩, .int .i64 0, .int .i64 0, .int .i64 0] 40)) (by simp) rfl hc0 (by omega) (by decide) (by decide) (by decide)).mono ?_
  rintro e w1 ⟨y1, rfl, hy1, hc1, hg1⟩
  have Iy1 : y1.size ≤ 20 := (show ∀ x ∈ ([⟨#[97, 121, 115, 101]⟩, ⟨#[100, 105, 108, 101, 107]⟩, ⟨#[111, 109, 105, 100]⟩] : List ByteArray), x.size ≤ 20 by decide) y1 hy1
  clear hy1
  replace r4 := r4.mark hg1 (fun z hz => by cases hz; omega)
  replace HG := grown_trans HG hg1
  clear hc0 hg1
  go_wp2_with fail
  refine (among5 p (k + 2) (w1.heap.size) 7 [1, 1, 2, 3, 5, 8, 15] (w1) rfl rfl hc1 (by omega) (by decide) (by decide) (i64_lit (by decide))).mono ?_
  rintro e w2 ⟨y2, rfl, hy2, hc2, hg2⟩
  have Iy2 := i64_lit (l := [1, 1, 2, 3, 5, 8, 15]) (by decide) y2 hy2
  clear hy2
  replace r4 := r4.mark hg2 (fun z hz => by cases hz; omega)
  replace HG := grown_trans HG hg2
  clear hc1 hg2
  go_wp2_with fail
  refine (among5 p (k + 4) (w2.heap.size) 5 [100, 6000, 6000, 7500, 12000] (w2) rfl rfl hc2 (by omega) (by decide) (by decide) (i64_lit (by decide))).mono ?_
  rintro e w3 ⟨y3, rfl, hy3, hc3, hg3⟩
  have Iy3 := i64_lit (l := [100, 6000, 6000, 7500, 12000]) (by decide) y3 hy3
  clear hy3
  replace r4 := r4.mark hg3 (fun z hz => by cases hz; omega)
  replace HG := grown_trans HG hg3
  clear hc2 hg3
  go_wp2_with fail
  refine (among5 p (k + 6) (w3.heap.size) 6 [0, 0, 3, 3, 4, 99] (w3) rfl rfl hc3 (by omega) (by decide) (by decide) (i64_lit (by decide))).mono ?_
  rintro e w4 ⟨y4, rfl, hy4, hc4, hg4⟩
  have Iy4 := i64_lit (l := [0, 0, 3, 3, 4, 99]) (by decide) y4 hy4
  clear hy4
  replace r4 := r4.mark hg4 (fun z hz => by cases hz; omega)
  replace HG := grown_trans HG hg4
  clear hc3 hg4
  have h2lt : w.heap.size < w4.heap.size := r4.lt
  have ob := (Below.refl w4.heap.size w4).alloc (Nat.le_refl _) (.cells #[.int .i64 id, .string y1, .int .i64 y2, .int .i64 y3, .int .i64 y4] 40)
  have r5 := Blk.new w4 #[.int .i64 id, .string y1, .int .i64 y2, .int .i64 y3, .int .i64 y4] 40
  replace r4 := r4.all ob
  replace hc4 := hc4.all ob
  replace HG := grown_trans HG (below_grown (row := some p) ob)
  clear ob
  have hp5 : p < w4.heap.size := Nat.lt_trans hpw h2lt
  have hg5 : w.heap.size ≤ w4.heap.size := Nat.le_of_lt h2lt
  go_wp2_with fail
  refine (pick_any p (k + 8) 70 (w4.alloc (.cells #[.int .i64 id, .string y1, .int .i64 y2, .int .i64 y3, .int .i64 y4] 40)) hc4 (by omega) (by omega) (by omega)).mono ?_
  rintro e w8 ⟨x, rfl, ⟨x0, x1⟩, hc8, hg8⟩
  replace r4 := r4.mark hg8 (fun z hz => by cases hz; omega)
  replace r5 := r5.mark hg8 (fun z hz => by cases hz; omega)
  replace HG := grown_trans HG hg8
  clear hc4 hg8 x0 x1
  by_cases hx0 : x = 0
  · subst hx0
    have u0 := r5.cell 0
    have u1 := r5.cell 1
    have u2 := r5.cell 2
    have u3 := r5.cell 3
    have u4 := r5.cell 4
    go_wp2_with fail
    refine (among5 p (k + 50) (w8.heap.size) 3 [0, 99, 100] (w8) rfl rfl (hc8.more (by omega)) (by omega) (by decide) (by decide) (i64_lit (by decide))).mono ?_
    rintro e w9 ⟨y9, rfl, hy9, hc9, hg9⟩
    have Iy9 := i64_lit (l := [0, 99, 100]) (by decide) y9 hy9
    clear hy9
    clear u0 u1 u2 u3 u4
    replace r4 := r4.mark hg9 (fun z hz => by cases hz; omega)
    replace r5 := r5.mark hg9 (fun z hz => by cases hz; omega)
    replace HG := grown_trans HG hg9
    replace hc9 := hc9.more (show _ ≤ k + 100 by omega)
    clear hg9 hc8
    have u0 := r5.cell 0
    have u1 := r5.cell 1
    have u2 := r5.cell 2
    have u3 := r5.cell 3
    have u4 := r5.cell 4
    have g0 := r5.frozen 0
    have g1 := r5.frozen 1
    have g2 := r5.frozen 2
    have g3 := r5.frozen 3
    have g4 := r5.frozen 4
    have v0 := r4.cell 0
    have v1 := r4.cell 1
    have v2 := r4.cell 2
    have v3 := r4.cell 3
    have v4 := r4.cell 4
    have f0 := r4.frozen 0
    have f1 := r4.frozen 1
    have f2 := r4.frozen 2
    have f3 := r4.frozen 3
    have f4 := r4.frozen 4
    go_wp2
    refine bodyPost_ret (v := .agg #[.int .i64 y9, .string y1, .int .i64 y2, .int .i64 y3, .int .i64 y4]) (by first | (simp [results, Try.results63, go_sem, v0, v1, v2, v3, v4]; done) | simp [results, Try.results63, go_sem, *]) rfl ⟨⟨y9, y1, y2, y3, y4⟩, rfl, ⟨⟨Iy9, (show y1.size ≤ maxLen by unfold maxLen; omega), Iy2, Iy3, Iy4⟩, Iy1⟩, (cur_set (a := ⟨w.heap.size, 4, none⟩) (cur_set (a := ⟨w.heap.size, 3, none⟩) (cur_set (a := ⟨w.heap.size, 2, none⟩) (cur_set (a := ⟨w.heap.size, 1, none⟩) (cur_set (a := ⟨w.heap.size, 0, none⟩) (cur_set (a := ⟨w4.heap.size, 0, none⟩) hc9 hp5 _) hpw _) hpw _) hpw _) hpw _) hpw _), (grown_set (a := ⟨w.heap.size, 4, none⟩) (grown_set (a := ⟨w.heap.size, 3, none⟩) (grown_set (a := ⟨w.heap.size, 2, none⟩) (grown_set (a := ⟨w.heap.size, 1, none⟩) (grown_set (a := ⟨w.heap.size, 0, none⟩) (grown_set (a := ⟨w4.heap.size, 0, none⟩) HG hg5 _) (Nat.le_refl _) _) (Nat.le_refl _) _) (Nat.le_refl _) _) (Nat.le_refl _) _) (Nat.le_refl _) _)⟩
  by_cases hx1 : x = 1
  · subst hx1
    clear hx0
    have u0 := r5.cell 0
    have u1 := r5.cell 1
    have u2 := r5.cell 2
    have u3 := r5.cell 3
    have u4 := r5.cell 4
    go_wp2_with fail
    refine (of_lit p (k + 50) (w8.heap.size) 3 [⟨#[]⟩, ⟨#[65]⟩, ⟨#[97, 98, 99, 100, 101, 102, 103, 104, 105, 106, 107]⟩] (w8) rfl rfl (hc8.more (by omega)) (by omega) (by decide) (by decide) (by decide)).mono ?_
    rintro e w9 ⟨y9, rfl, hy9, hc9, hg9⟩
    have Iy9 : y9.size ≤ 20 := (show ∀ x ∈ ([⟨#[]⟩, ⟨#[65]⟩, ⟨#[97, 98, 99, 100, 101, 102, 103, 104, 105, 106, 107]⟩] : List ByteArray), x.size ≤ 20 by decide) y9 hy9
    clear hy9
    clear u0 u1 u2 u3 u4
    replace r4 := r4.mark hg9 (fun z hz => by cases hz; omega)
    replace r5 := r5.mark hg9 (fun z hz => by cases hz; omega)
    replace HG := grown_trans HG hg9
    replace hc9 := hc9.more (show _ ≤ k + 100 by omega)
    clear hg9 hc8
    have u0 := r5.cell 0
    have u1 := r5.cell 1
    have u2 := r5.cell 2
    have u3 := r5.cell 3
    have u4 := r5.cell 4
    have g0 := r5.frozen 0
    have g1 := r5.frozen 1
    have g2 := r5.frozen 2
    have g3 := r5.frozen 3
    have g4 := r5.frozen 4
    have v0 := r4.cell 0
    have v1 := r4.cell 1
    have v2 := r4.cell 2
    have v3 := r4.cell 3
    have v4 := r4.cell 4
    have f0 := r4.frozen 0
    have f1 := r4.frozen 1
    have f2 := r4.frozen 2
    have f3 := r4.frozen 3
    have f4 := r4.frozen 4
    go_wp2
    refine bodyPost_ret (v := .agg #[.int .i64 id, .string y9, .int .i64 y2, .int .i64 y3, .int .i64 y4]) (by first | (simp [results, Try.results63, go_sem, v0, v1, v2, v3, v4]; done) | simp [results, Try.results63, go_sem, *]) rfl ⟨⟨id, y9, y2, y3, y4⟩, rfl, ⟨⟨Iid, (show y9.size ≤ maxLen by unfold maxLen; omega), Iy2, Iy3, Iy4⟩, Iy9⟩, (cur_set (a := ⟨w.heap.size, 4, none⟩) (cur_set (a := ⟨w.heap.size, 3, none⟩) (cur_set (a := ⟨w.heap.size, 2, none⟩) (cur_set (a := ⟨w.heap.size, 1, none⟩) (cur_set (a := ⟨w.heap.size, 0, none⟩) (cur_set (a := ⟨w4.heap.size, 1, none⟩) hc9 hp5 _) hpw _) hpw _) hpw _) hpw _) hpw _), (grown_set (a := ⟨w.heap.size, 4, none⟩) (grown_set (a := ⟨w.heap.size, 3, none⟩) (grown_set (a := ⟨w.heap.size, 2, none⟩) (grown_set (a := ⟨w.heap.size, 1, none⟩) (grown_set (a := ⟨w.heap.size, 0, none⟩) (grown_set (a := ⟨w4.heap.size, 1, none⟩) HG hg5 _) (Nat.le_refl _) _) (Nat.le_refl _) _) (Nat.le_refl _) _) (Nat.le_refl _) _) (Nat.le_refl _) _)⟩
  by_cases hx2 : x = 2
  · subst hx2
    clear hx0 hx1
    have u0 := r5.cell 0
    have u1 := r5.cell 1
    have u2 := r5.cell 2
    have u3 := r5.cell 3
    have u4 := r5.cell 4
    go_wp2_with fail
    refine (among5 p (k + 50) (w8.heap.size) 2 [0, 16] (w8) rfl rfl (hc8.more (by omega)) (by omega) (by decide) (by decide) (i64_lit (by decide))).mono ?_
    rintro e w9 ⟨y9, rfl, hy9, hc9, hg9⟩
    have Iy9 := i64_lit (l := [0, 16]) (by decide) y9 hy9
    clear hy9
    clear u0 u1 u2 u3 u4
    replace r4 := r4.mark hg9 (fun z hz => by cases hz; omega)
    replace r5 := r5.mark hg9 (fun z hz => by cases hz; omega)
    replace HG := grown_trans HG hg9
    replace hc9 := hc9.more (show _ ≤ k + 100 by omega)
    clear hg9 hc8
    have u0 := r5.cell 0
    have u1 := r5.cell 1
    have u2 := r5.cell 2
    have u3 := r5.cell 3
    have u4 := r5.cell 4
    have g0 := r5.frozen 0
    have g1 := r5.frozen 1
    have g2 := r5.frozen 2
    have g3 := r5.frozen 3
    have g4 := r5.frozen 4
    have v0 := r4.cell 0
    have v1 := r4.cell 1
    have v2 := r4.cell 2
    have v3 := r4.cell 3
    have v4 := r4.cell 4
    have f0 := r4.frozen 0
    have f1 := r4.frozen 1
    have f2 := r4.frozen 2
    have f3 := r4.frozen 3
    have f4 := r4.frozen 4
    go_wp2
    refine bodyPost_ret (v := .agg #[.int .i64 id, .string y1, .int .i64 y9, .int .i64 y3, .int .i64 y4]) (by first | (simp [results, Try.results63, go_sem, v0, v1, v2, v3, v4]; done) | simp [results, Try.results63, go_sem, *]) rfl ⟨⟨id, y1, y9, y3, y4⟩, rfl, ⟨⟨Iid, (show y1.size ≤ maxLen by unfold maxLen; omega), Iy9, Iy3, Iy4⟩, Iy1⟩, (cur_set (a := ⟨w.heap.size, 4, none⟩) (cur_set (a := ⟨w.heap.size, 3, none⟩) (cur_set (a := ⟨w.heap.size, 2, none⟩) (cur_set (a := ⟨w.heap.size, 1, none⟩) (cur_set (a := ⟨w.heap.size, 0, none⟩) (cur_set (a := ⟨w4.heap.size, 2, none⟩) hc9 hp5 _) hpw _) hpw _) hpw _) hpw _) hpw _), (grown_set (a := ⟨w.heap.size, 4, none⟩) (grown_set (a := ⟨w.heap.size, 3, none⟩) (grown_set (a := ⟨w.heap.size, 2, none⟩) (grown_set (a := ⟨w.heap.size, 1, none⟩) (grown_set (a := ⟨w.heap.size, 0, none⟩) (grown_set (a := ⟨w4.heap.size, 2, none⟩) HG hg5 _) (Nat.le_refl _) _) (Nat.le_refl _) _) (Nat.le_refl _) _) (Nat.le_refl _) _) (Nat.le_refl _) _)⟩
  by_cases hx3 : x = 3
  · subst hx3
    clear hx0 hx1 hx2
    have u0 := r5.cell 0
    have u1 := r5.cell 1
    have u2 := r5.cell 2
    have u3 := r5.cell 3
    have u4 := r5.cell 4
    go_wp2_with fail
    refine (among5 p (k + 50) (w8.heap.size) 2 [99, 12001] (w8) rfl rfl (hc8.more (by omega)) (by omega) (by decide) (by decide) (i64_lit (by decide))).mono ?_
    rintro e w9 ⟨y9, rfl, hy9, hc9, hg9⟩
    have Iy9 := i64_lit (l := [99, 12001]) (by decide) y9 hy9
    clear hy9
    clear u0 u1 u2 u3 u4
    replace r4 := r4.mark hg9 (fun z hz => by cases hz; omega)
    replace r5 := r5.mark hg9 (fun z hz => by cases hz; omega)
    replace HG := grown_trans HG hg9
    replace hc9 := hc9.more (show _ ≤ k + 100 by omega)
    clear hg9 hc8
    have u0 := r5.cell 0
    have u1 := r5.cell 1
    have u2 := r5.cell 2
    have u3 := r5.cell 3
    have u4 := r5.cell 4
    have g0 := r5.frozen 0
    have g1 := r5.frozen 1
    have g2 := r5.frozen 2
    have g3 := r5.frozen 3
    have g4 := r5.frozen 4
    have v0 := r4.cell 0
    have v1 := r4.cell 1
    have v2 := r4.cell 2
    have v3 := r4.cell 3
    have v4 := r4.cell 4
    have f0 := r4.frozen 0
    have f1 := r4.frozen 1
    have f2 := r4.frozen 2
    have f3 := r4.frozen 3
    have f4 := r4.frozen 4
    go_wp2
    refine bodyPost_ret (v := .agg #[.int .i64 id, .string y1, .int .i64 y2, .int .i64 y9, .int .i64 y4]) (by first | (simp [results, Try.results63, go_sem, v0, v1, v2, v3, v4]; done) | simp [results, Try.results63, go_sem, *]) rfl ⟨⟨id, y1, y2, y9, y4⟩, rfl, ⟨⟨Iid, (show y1.size ≤ maxLen by unfold maxLen; omega), Iy2, Iy9, Iy4⟩, Iy1⟩, (cur_set (a := ⟨w.heap.size, 4, none⟩) (cur_set (a := ⟨w.heap.size, 3, none⟩) (cur_set (a := ⟨w.heap.size, 2, none⟩) (cur_set (a := ⟨w.heap.size, 1, none⟩) (cur_set (a := ⟨w.heap.size, 0, none⟩) (cur_set (a := ⟨w4.heap.size, 3, none⟩) hc9 hp5 _) hpw _) hpw _) hpw _) hpw _) hpw _), (grown_set (a := ⟨w.heap.size, 4, none⟩) (grown_set (a := ⟨w.heap.size, 3, none⟩) (grown_set (a := ⟨w.heap.size, 2, none⟩) (grown_set (a := ⟨w.heap.size, 1, none⟩) (grown_set (a := ⟨w.heap.size, 0, none⟩) (grown_set (a := ⟨w4.heap.size, 3, none⟩) HG hg5 _) (Nat.le_refl _) _) (Nat.le_refl _) _) (Nat.le_refl _) _) (Nat.le_refl _) _) (Nat.le_refl _) _)⟩
  by_cases hx4 : x = 4
  · subst hx4
    clear hx0 hx1 hx2 hx3
    have u0 := r5.cell 0
    have u1 := r5.cell 1
    have u2 := r5.cell 2
    have u3 := r5.cell 3
    have u4 := r5.cell 4
    go_wp2_with fail
    refine (among5 p (k + 50) (w8.heap.size) 2 [-1, 100] (w8) rfl rfl (hc8.more (by omega)) (by omega) (by decide) (by decide) (i64_lit (by decide))).mono ?_
    rintro e w9 ⟨y9, rfl, hy9, hc9, hg9⟩
    have Iy9 := i64_lit (l := [-1, 100]) (by decide) y9 hy9
    clear hy9
    clear u0 u1 u2 u3 u4
    replace r4 := r4.mark hg9 (fun z hz => by cases hz; omega)
    replace r5 := r5.mark hg9 (fun z hz => by cases hz; omega)
    replace HG := grown_trans HG hg9
    replace hc9 := hc9.more (show _ ≤ k + 100 by omega)
    clear hg9 hc8
    have u0 := r5.cell 0
    have u1 := r5.cell 1
    have u2 := r5.cell 2
    have u3 := r5.cell 3
    have u4 := r5.cell 4
    have g0 := r5.frozen 0
    have g1 := r5.frozen 1
    have g2 := r5.frozen 2
    have g3 := r5.frozen 3
    have g4 := r5.frozen 4
    have v0 := r4.cell 0
    have v1 := r4.cell 1
    have v2 := r4.cell 2
    have v3 := r4.cell 3
    have v4 := r4.cell 4
    have f0 := r4.frozen 0
    have f1 := r4.frozen 1
    have f2 := r4.frozen 2
    have f3 := r4.frozen 3
    have f4 := r4.frozen 4
    go_wp2
    refine bodyPost_ret (v := .agg #[.int .i64 id, .string y1, .int .i64 y2, .int .i64 y3, .int .i64 y9]) (by first | (simp [results, Try.results63, go_sem, v0, v1, v2, v3, v4]; done) | simp [results, Try.results63, go_sem, *]) rfl ⟨⟨id, y1, y2, y3, y9⟩, rfl, ⟨⟨Iid, (show y1.size ≤ maxLen by unfold maxLen; omega), Iy2, Iy3, Iy9⟩, Iy1⟩, (cur_set (a := ⟨w.heap.size, 4, none⟩) (cur_set (a := ⟨w.heap.size, 3, none⟩) (cur_set (a := ⟨w.heap.size, 2, none⟩) (cur_set (a := ⟨w.heap.size, 1, none⟩) (cur_set (a := ⟨w.heap.size, 0, none⟩) (cur_set (a := ⟨w4.heap.size, 4, none⟩) hc9 hp5 _) hpw _) hpw _) hpw _) hpw _) hpw _), (grown_set (a := ⟨w.heap.size, 4, none⟩) (grown_set (a := ⟨w.heap.size, 3, none⟩) (grown_set (a := ⟨w.heap.size, 2, none⟩) (grown_set (a := ⟨w.heap.size, 1, none⟩) (grown_set (a := ⟨w.heap.size, 0, none⟩) (grown_set (a := ⟨w4.heap.size, 4, none⟩) HG hg5 _) (Nat.le_refl _) _) (Nat.le_refl _) _) (Nat.le_refl _) _) (Nat.le_refl _) _) (Nat.le_refl _) _)⟩
  have hx0' : (x == 0) = false := by simpa using hx0
  have hx1' : (x == 1) = false := by simpa using hx1
  have hx2' : (x == 2) = false := by simpa using hx2
  have hx3' : (x == 3) = false := by simpa using hx3
  have hx4' : (x == 4) = false := by simpa using hx4
  clear hx0 hx1 hx2 hx3 hx4
  have hc9 := hc8.more (show _ ≤ k + 100 by omega)
  clear hc8
  have u0 := r5.cell 0
  have u1 := r5.cell 1
  have u2 := r5.cell 2
  have u3 := r5.cell 3
  have u4 := r5.cell 4
  have g0 := r5.frozen 0
  have g1 := r5.frozen 1
  have g2 := r5.frozen 2
  have g3 := r5.frozen 3
  have g4 := r5.frozen 4
  have v0 := r4.cell 0
  have v1 := r4.cell 1
  have v2 := r4.cell 2
  have v3 := r4.cell 3
  have v4 := r4.cell 4
  have f0 := r4.frozen 0
  have f1 := r4.frozen 1
  have f2 := r4.frozen 2
  have f3 := r4.frozen 3
  have f4 := r4.frozen 4
  go_wp2
  refine bodyPost_ret (v := .agg #[.int .i64 id, .string y1, .int .i64 y2, .int .i64 y3, .int .i64 y4]) (by first | (simp [results, Try.results63, go_sem, v0, v1, v2, v3, v4]; done) | simp [results, Try.results63, go_sem, *]) rfl ⟨⟨id, y1, y2, y3, y4⟩, rfl, ⟨⟨Iid, (show y1.size ≤ maxLen by unfold maxLen; omega), Iy2, Iy3, Iy4⟩, Iy1⟩, (cur_set (a := ⟨w.heap.size, 4, none⟩) (cur_set (a := ⟨w.heap.size, 3, none⟩) (cur_set (a := ⟨w.heap.size, 2, none⟩) (cur_set (a := ⟨w.heap.size, 1, none⟩) (cur_set (a := ⟨w.heap.size, 0, none⟩) hc9 hpw _) hpw _) hpw _) hpw _) hpw _), (grown_set (a := ⟨w.heap.size, 4, none⟩) (grown_set (a := ⟨w.heap.size, 3, none⟩) (grown_set (a := ⟨w.heap.size, 2, none⟩) (grown_set (a := ⟨w.heap.size, 1, none⟩) (grown_set (a := ⟨w.heap.size, 0, none⟩) HG (Nat.le_refl _) _) (Nat.le_refl _) _) (Nat.le_refl _) _) (Nat.le_refl _) _) (Nat.le_refl _) _)⟩
end Go.Proofs.Ytanfblpibomfaaa
