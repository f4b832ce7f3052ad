/- The draw of a yarn. Condition: few draws. -/
import Derived.Test.YtndoianocmekmaaPick
import Derived.Test.YtndoianocmekmaaYarnData
namespace Go.Proofs.Ytndoianocmekmaa
open Go.RowKit

theorem i64_lit {l : List Int} (h : ∀ x ∈ l, -100000000 ≤ x ∧ x ≤ 100000000) : ∀ x ∈ l, I64 x := fun x hx => by have := h x hx; unfold I64; omega
theorem i64_small5 {x : Int} (h1 : -1000000 ≤ x) (h2 : x ≤ 1000000) : I64 x := ⟨by omega, by omega⟩
theorem among5 (p k q m : Nat) (xs : List Int) (w : World) (hq : q = w.heap.size) (hm : m = xs.length) (h : Cur w p k) (hk : k + 2 ≤ 4294967296) (h1 : 1 ≤ xs.length) (hn : xs.length ≤ 1000) (hx : ∀ x ∈ xs, I64 x) :
    Calls Try.prog 32 #[.pointer (some ⟨p, 0, none⟩), .slice (some ⟨q, 0, none⟩) m m] (w.alloc (.cells (xs.map (Value.int .i64)).toArray 3)) fun e w' => ∃ y : Int, e = .returned (.int .i64 y) ∧ y ∈ xs ∧ Cur w' p (k + 2) ∧ w.grownBy w' (some p) := by
  subst hq
  subst hm
  have hal := (Below.refl w.heap.size w).alloc (Nat.le_refl _) (.cells (xs.map (Value.int .i64)).toArray 3)
  have hp := h.lt
  refine (among_any p k w.heap.size 0 xs.length xs.length _ xs _ (h.all hal) hk (lit_rd w xs hx hn) h1 hn (by omega)).mono ?_
  rintro e w' ⟨y, rfl, hy, hc, hg⟩
  exact ⟨y, rfl, hy, hc, grown_trans (below_grown hal) hg⟩
theorem cur_set {w : World} {p k : Nat} (h : Cur w p k) {a : Addr} (hp : p < a.block) (v : Value) : Cur (w.setCell a v) p k := h.mark (grown_setCell w a v) (fun z hz => by cases hz; exact hp)
theorem grown_set {w w1 : World} {row : Option Nat} (h : w.grownBy w1 row) {a : Addr} (hp : w.heap.size ≤ a.block) (v : Value) : w.grownBy (w1.setCell a v) row :=
  ⟨h.os, h.tape, h.output, Nat.le_trans h.size (by simp [World.setCell]), fun k hk hne => (heap_setCell_other w1 a k v (by omega)).trans (h.block k hk hne)⟩
/-- What a draw of a yarn leaves. -/
def DrewYarn (w : World) (p k : Nat) (e : Ending) (w' : World) : Prop := ∃ s : YarnR, e = .returned (.agg #[.int .i64 s.f0, .int .i64 s.f1, .int .i64 s.f2, .int .i64 s.f3]) ∧ s.ok ∧ Cur w' p k ∧ w.grownBy w' (some p)
set_option maxRecDepth 100000 in
set_option maxHeartbeats 16000000 in
theorem yarn_any (p k : Nat) (w : World) (h : Cur w p k) (hk : k + 100 ≤ 4294967296) :
    Calls Try.prog 31 #[.pointer (some ⟨p, 0, none⟩)] w (DrewYarn w p (k + 100)) := by
  have hpw := h.lt
  have r4 := Blk.new w #[.int .i64 0, .int .i64 0, .int .i64 0, .int .i64 0] 25
  have hb0 : Below w.heap.size w (w.alloc (.cells #[.int .i64 0, .int .i64 0, .int .i64 0, .int .i64 0] 25)) := (Below.refl _ _).alloc (Nat.le_refl _) _
  have HG := below_grown (row := some p) hb0
  have hc0 := h.all hb0
  clear h hb0
  go_enter Try.func31, Try.ntmps31
  go_wp2_with fail
  refine (among5 p (k + 0) (w.heap.size + 1) 5 [1, 5, 8, 12, 30] (w.alloc (.cells #[.int .i64 0, .int .i64 0, .int .i64 0, .int .i64 0] 25)) (by simp) rfl hc0 (by omega) (by decide) (by decide) (i64_lit (by decide))).mono ?_
  rintro e w1 ⟨y1, rfl, hy1, hc1, hg1⟩
  have Iy1 := i64_lit (l := [1, 5, 8, 12, 30]) (by decide) y1 hy1
  clear hy1
  replace r4 := r4.mark hg1 (fun z hz => by cases hz; omega)
  replace HG := grown_trans HG hg1
  clear hc0 hg1
  go_wp2_with fail
  refine (among5 p (k + 2) (w1.heap.size) 4 [1, 6, 10, 40] (w1) rfl rfl hc1 (by omega) (by decide) (by decide) (i64_lit (by decide))).mono ?_
  rintro e w2 ⟨y2, rfl, hy2, hc2, hg2⟩
  have Iy2 := i64_lit (l := [1, 6, 10, 40]) (by decide) y2 hy2
  clear hy2
  replace r4 := r4.mark hg2 (fun z hz => by cases hz; omega)
  replace HG := grown_trans HG hg2
  clear hc1 hg2
  go_wp2_with fail
  refine (among5 p (k + 4) (w2.heap.size) 5 [0, 5, 7, 33, 100] (w2) rfl rfl hc2 (by omega) (by decide) (by decide) (i64_lit (by decide))).mono ?_
  rintro e w3 ⟨y3, rfl, hy3, hc3, hg3⟩
  have Iy3 := i64_lit (l := [0, 5, 7, 33, 100]) (by decide) y3 hy3
  clear hy3
  replace r4 := r4.mark hg3 (fun z hz => by cases hz; omega)
  replace HG := grown_trans HG hg3
  clear hc2 hg3
  go_wp2_with fail
  refine (among5 p (k + 6) (w3.heap.size) 4 [1, 10, 50, 1000] (w3) rfl rfl hc3 (by omega) (by decide) (by decide) (i64_lit (by decide))).mono ?_
  rintro e w4 ⟨y4, rfl, hy4, hc4, hg4⟩
  have Iy4 := i64_lit (l := [1, 10, 50, 1000]) (by decide) y4 hy4
  clear hy4
  replace r4 := r4.mark hg4 (fun z hz => by cases hz; omega)
  replace HG := grown_trans HG hg4
  clear hc3 hg4
  have h2lt : w.heap.size < w4.heap.size := r4.lt
  have ob := (Below.refl w4.heap.size w4).alloc (Nat.le_refl _) (.cells #[.int .i64 y1, .int .i64 y2, .int .i64 y3, .int .i64 y4] 25)
  have r5 := Blk.new w4 #[.int .i64 y1, .int .i64 y2, .int .i64 y3, .int .i64 y4] 25
  replace r4 := r4.all ob
  replace hc4 := hc4.all ob
  replace HG := grown_trans HG (below_grown (row := some p) ob)
  have hz4 := HG.size
  clear ob
  have hp5 : p < w4.heap.size := Nat.lt_trans hpw h2lt
  have hg5 : w.heap.size ≤ w4.heap.size := Nat.le_of_lt h2lt
  go_wp2_with fail
  refine (pick_any p (k + 8) 32 (w4.alloc (.cells #[.int .i64 y1, .int .i64 y2, .int .i64 y3, .int .i64 y4] 25)) hc4 (by omega) (by omega) (by omega)).mono ?_
  rintro e w8 ⟨x, rfl, ⟨x0, x1⟩, hc8, hg8⟩
  replace r4 := r4.mark hg8 (fun z hz => by cases hz; omega)
  replace r5 := r5.mark hg8 (fun z hz => by cases hz; omega)
  replace HG := grown_trans HG hg8
  replace hc8 := hc8.more (show _ ≤ k + 50 by omega)
  clear hg8 x1
  have hz8 := HG.size
  have hz5 := r5.lt
  by_cases hx0 : x = 0
  · subst hx0
    have u0 := r5.cell 0
    have u1 := r5.cell 1
    have u2 := r5.cell 2
    have u3 := r5.cell 3
    go_wp2_with fail
    refine (among5 p (k + 50) (w8.heap.size) 2 [0, 31] (w8) rfl rfl hc8 (by omega) (by decide) (by decide) (i64_lit (by decide))).mono ?_
    rintro e w9 ⟨y9, rfl, hy9, hc9, hg9⟩
    have Iy9 := i64_lit (l := [0, 31]) (by decide) y9 hy9
    clear hy9
    clear u0 u1 u2 u3
    replace r4 := r4.mark hg9 (fun z hz => by cases hz; omega)
    replace r5 := r5.mark hg9 (fun z hz => by cases hz; omega)
    replace HG := grown_trans HG hg9
    replace hc9 := hc9.more (show _ ≤ k + 100 by omega)
    clear hg9 hc8
    have u0 := r5.cell 0
    have u1 := r5.cell 1
    have u2 := r5.cell 2
    have u3 := r5.cell 3
    have g0 := r5.frozen 0
    have g1 := r5.frozen 1
    have g2 := r5.frozen 2
    have g3 := r5.frozen 3
    have v0 := r4.cell 0
    have v1 := r4.cell 1
    have v2 := r4.cell 2
    have v3 := r4.cell 3
    have f0 := r4.frozen 0
    have f1 := r4.frozen 1
    have f2 := r4.frozen 2
    have f3 := r4.frozen 3
    go_wp2
    refine bodyPost_ret (v := .agg #[.int .i64 y9, .int .i64 y2, .int .i64 y3, .int .i64 y4]) (by first | (simp [results, Try.results31, go_sem, v0, v1, v2, v3]; done) | simp [results, Try.results31, go_sem, *]) rfl ⟨⟨y9, y2, y3, y4⟩, rfl, ⟨Iy9, Iy2, Iy3, Iy4⟩, (cur_set (a := ⟨w.heap.size, 3, none⟩) (cur_set (a := ⟨w.heap.size, 2, none⟩) (cur_set (a := ⟨w.heap.size, 1, none⟩) (cur_set (a := ⟨w.heap.size, 0, none⟩) (cur_set (a := ⟨w4.heap.size, 0, none⟩) hc9 hp5 _) hpw _) hpw _) hpw _) hpw _), (grown_set (a := ⟨w.heap.size, 3, none⟩) (grown_set (a := ⟨w.heap.size, 2, none⟩) (grown_set (a := ⟨w.heap.size, 1, none⟩) (grown_set (a := ⟨w.heap.size, 0, none⟩) (grown_set (a := ⟨w4.heap.size, 0, none⟩) HG hg5 _) (Nat.le_refl _) _) (Nat.le_refl _) _) (Nat.le_refl _) _) (Nat.le_refl _) _)⟩
  by_cases hx1 : x = 1
  · subst hx1
    have u0 := r5.cell 0
    have u1 := r5.cell 1
    have u2 := r5.cell 2
    have u3 := r5.cell 3
    go_wp2_with fail
    refine (among5 p (k + 50) (w8.heap.size) 2 [0, 41] (w8) rfl rfl hc8 (by omega) (by decide) (by decide) (i64_lit (by decide))).mono ?_
    rintro e w9 ⟨y9, rfl, hy9, hc9, hg9⟩
    have Iy9 := i64_lit (l := [0, 41]) (by decide) y9 hy9
    clear hy9
    clear u0 u1 u2 u3
    replace r4 := r4.mark hg9 (fun z hz => by cases hz; omega)
    replace r5 := r5.mark hg9 (fun z hz => by cases hz; omega)
    replace HG := grown_trans HG hg9
    replace hc9 := hc9.more (show _ ≤ k + 100 by omega)
    clear hg9 hc8
    have u0 := r5.cell 0
    have u1 := r5.cell 1
    have u2 := r5.cell 2
    have u3 := r5.cell 3
    have g0 := r5.frozen 0
    have g1 := r5.frozen 1
    have g2 := r5.frozen 2
    have g3 := r5.frozen 3
    have v0 := r4.cell 0
    have v1 := r4.cell 1
    have v2 := r4.cell 2
    have v3 := r4.cell 3
    have f0 := r4.frozen 0
    have f1 := r4.frozen 1
    have f2 := r4.frozen 2
    have f3 := r4.frozen 3
    go_wp2
    refine bodyPost_ret (v := .agg #[.int .i64 y1, .int .i64 y9, .int .i64 y3, .int .i64 y4]) (by first | (simp [results, Try.results31, go_sem, v0, v1, v2, v3]; done) | simp [results, Try.results31, go_sem, *]) rfl ⟨⟨y1, y9, y3, y4⟩, rfl, ⟨Iy1, Iy9, Iy3, Iy4⟩, (cur_set (a := ⟨w.heap.size, 3, none⟩) (cur_set (a := ⟨w.heap.size, 2, none⟩) (cur_set (a := ⟨w.heap.size, 1, none⟩) (cur_set (a := ⟨w.heap.size, 0, none⟩) (cur_set (a := ⟨w4.heap.size, 1, none⟩) hc9 hp5 _) hpw _) hpw _) hpw _) hpw _), (grown_set (a := ⟨w.heap.size, 3, none⟩) (grown_set (a := ⟨w.heap.size, 2, none⟩) (grown_set (a := ⟨w.heap.size, 1, none⟩) (grown_set (a := ⟨w.heap.size, 0, none⟩) (grown_set (a := ⟨w4.heap.size, 1, none⟩) HG hg5 _) (Nat.le_refl _) _) (Nat.le_refl _) _) (Nat.le_refl _) _) (Nat.le_refl _) _)⟩
  by_cases hx2 : x = 2
  · subst hx2
    have u0 := r5.cell 0
    have u1 := r5.cell 1
    have u2 := r5.cell 2
    have u3 := r5.cell 3
    go_wp2_with fail
    refine (among5 p (k + 50) (w8.heap.size) 2 [-1, 101] (w8) rfl rfl hc8 (by omega) (by decide) (by decide) (i64_lit (by decide))).mono ?_
    rintro e w9 ⟨y9, rfl, hy9, hc9, hg9⟩
    have Iy9 := i64_lit (l := [-1, 101]) (by decide) y9 hy9
    clear hy9
    clear u0 u1 u2 u3
    replace r4 := r4.mark hg9 (fun z hz => by cases hz; omega)
    replace r5 := r5.mark hg9 (fun z hz => by cases hz; omega)
    replace HG := grown_trans HG hg9
    replace hc9 := hc9.more (show _ ≤ k + 100 by omega)
    clear hg9 hc8
    have u0 := r5.cell 0
    have u1 := r5.cell 1
    have u2 := r5.cell 2
    have u3 := r5.cell 3
    have g0 := r5.frozen 0
    have g1 := r5.frozen 1
    have g2 := r5.frozen 2
    have g3 := r5.frozen 3
    have v0 := r4.cell 0
    have v1 := r4.cell 1
    have v2 := r4.cell 2
    have v3 := r4.cell 3
    have f0 := r4.frozen 0
    have f1 := r4.frozen 1
    have f2 := r4.frozen 2
    have f3 := r4.frozen 3
    go_wp2
    refine bodyPost_ret (v := .agg #[.int .i64 y1, .int .i64 y2, .int .i64 y9, .int .i64 y4]) (by first | (simp [results, Try.results31, go_sem, v0, v1, v2, v3]; done) | simp [results, Try.results31, go_sem, *]) rfl ⟨⟨y1, y2, y9, y4⟩, rfl, ⟨Iy1, Iy2, Iy9, Iy4⟩, (cur_set (a := ⟨w.heap.size, 3, none⟩) (cur_set (a := ⟨w.heap.size, 2, none⟩) (cur_set (a := ⟨w.heap.size, 1, none⟩) (cur_set (a := ⟨w.heap.size, 0, none⟩) (cur_set (a := ⟨w4.heap.size, 2, none⟩) hc9 hp5 _) hpw _) hpw _) hpw _) hpw _), (grown_set (a := ⟨w.heap.size, 3, none⟩) (grown_set (a := ⟨w.heap.size, 2, none⟩) (grown_set (a := ⟨w.heap.size, 1, none⟩) (grown_set (a := ⟨w.heap.size, 0, none⟩) (grown_set (a := ⟨w4.heap.size, 2, none⟩) HG hg5 _) (Nat.le_refl _) _) (Nat.le_refl _) _) (Nat.le_refl _) _) (Nat.le_refl _) _)⟩
  by_cases hx3 : x = 3
  · subst hx3
    have u0 := r5.cell 0
    have u1 := r5.cell 1
    have u2 := r5.cell 2
    have u3 := r5.cell 3
    go_wp2_with fail
    refine (among5 p (k + 50) (w8.heap.size) 2 [0, 1001] (w8) rfl rfl hc8 (by omega) (by decide) (by decide) (i64_lit (by decide))).mono ?_
    rintro e w9 ⟨y9, rfl, hy9, hc9, hg9⟩
    have Iy9 := i64_lit (l := [0, 1001]) (by decide) y9 hy9
    clear hy9
    clear u0 u1 u2 u3
    replace r4 := r4.mark hg9 (fun z hz => by cases hz; omega)
    replace r5 := r5.mark hg9 (fun z hz => by cases hz; omega)
    replace HG := grown_trans HG hg9
    replace hc9 := hc9.more (show _ ≤ k + 100 by omega)
    clear hg9 hc8
    have u0 := r5.cell 0
    have u1 := r5.cell 1
    have u2 := r5.cell 2
    have u3 := r5.cell 3
    have g0 := r5.frozen 0
    have g1 := r5.frozen 1
    have g2 := r5.frozen 2
    have g3 := r5.frozen 3
    have v0 := r4.cell 0
    have v1 := r4.cell 1
    have v2 := r4.cell 2
    have v3 := r4.cell 3
    have f0 := r4.frozen 0
    have f1 := r4.frozen 1
    have f2 := r4.frozen 2
    have f3 := r4.frozen 3
    go_wp2
    refine bodyPost_ret (v := .agg #[.int .i64 y1, .int .i64 y2, .int .i64 y3, .int .i64 y9]) (by first | (simp [results, Try.results31, go_sem, v0, v1, v2, v3]; done) | simp [results, Try.results31, go_sem, *]) rfl ⟨⟨y1, y2, y3, y9⟩, rfl, ⟨Iy1, Iy2, Iy3, Iy9⟩, (cur_set (a := ⟨w.heap.size, 3, none⟩) (cur_set (a := ⟨w.heap.size, 2, none⟩) (cur_set (a := ⟨w.heap.size, 1, none⟩) (cur_set (a := ⟨w.heap.size, 0, none⟩) (cur_set (a := ⟨w4.heap.size, 3, none⟩) hc9 hp5 _) hpw _) hpw _) hpw _) hpw _), (grown_set (a := ⟨w.heap.size, 3, none⟩) (grown_set (a := ⟨w.heap.size, 2, none⟩) (grown_set (a := ⟨w.heap.size, 1, none⟩) (grown_set (a := ⟨w.heap.size, 0, none⟩) (grown_set (a := ⟨w4.heap.size, 3, none⟩) HG hg5 _) (Nat.le_refl _) _) (Nat.le_refl _) _) (Nat.le_refl _) _) (Nat.le_refl _) _)⟩
  have hx0' : (x == 0) = false := by simpa using hx0
  have hx1' : (x == 1) = false := by simpa using hx1
  have hx2' : (x == 2) = false := by simpa using hx2
  have hx3' : (x == 3) = false := by simpa using hx3
  clear hx0 hx1 hx2 hx3
  have hc9 := hc8.more (show _ ≤ k + 100 by omega)
  clear hc8
  have u0 := r5.cell 0
  have u1 := r5.cell 1
  have u2 := r5.cell 2
  have u3 := r5.cell 3
  have g0 := r5.frozen 0
  have g1 := r5.frozen 1
  have g2 := r5.frozen 2
  have g3 := r5.frozen 3
  have v0 := r4.cell 0
  have v1 := r4.cell 1
  have v2 := r4.cell 2
  have v3 := r4.cell 3
  have f0 := r4.frozen 0
  have f1 := r4.frozen 1
  have f2 := r4.frozen 2
  have f3 := r4.frozen 3
  go_wp2
  refine bodyPost_ret (v := .agg #[.int .i64 y1, .int .i64 y2, .int .i64 y3, .int .i64 y4]) (by first | (simp [results, Try.results31, go_sem, v0, v1, v2, v3]; done) | simp [results, Try.results31, go_sem, *]) rfl ⟨⟨y1, y2, y3, y4⟩, rfl, ⟨Iy1, Iy2, Iy3, Iy4⟩, (cur_set (a := ⟨w.heap.size, 3, none⟩) (cur_set (a := ⟨w.heap.size, 2, none⟩) (cur_set (a := ⟨w.heap.size, 1, none⟩) (cur_set (a := ⟨w.heap.size, 0, none⟩) hc9 hpw _) hpw _) hpw _) hpw _), (grown_set (a := ⟨w.heap.size, 3, none⟩) (grown_set (a := ⟨w.heap.size, 2, none⟩) (grown_set (a := ⟨w.heap.size, 1, none⟩) (grown_set (a := ⟨w.heap.size, 0, none⟩) HG (Nat.le_refl _) _) (Nat.le_refl _) _) (Nat.le_refl _) _) (Nat.le_refl _) _)⟩
end Go.Proofs.Ytndoianocmekmaa
