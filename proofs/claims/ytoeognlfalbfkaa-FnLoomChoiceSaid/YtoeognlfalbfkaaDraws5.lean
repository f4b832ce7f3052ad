/- The draws of chapter 5: a loom, a list of looms, an id. Condition: few draws. -/
import Derived.Test.YtoeognlfalbfkaaPick
import Derived.Test.YtoeognlfalbfkaaLoomMath
import Derived.Test.YtoeognlfalbfkaaLoomHelp
import Derived.Test.YtoeognlfalbfkaaAppF
namespace Go.Proofs.Ytoeognlfalbfkaa
open Go.RowKit

theorem i64_lit {l : List Int} (h : ∀ x ∈ l, -100000 ≤ x ∧ x ≤ 100000) : ∀ x ∈ l, I64 x := fun x hx => by have := h x hx; unfold I64; omega
theorem i64_small5 {x : Int} (h1 : -1000000 ≤ x) (h2 : x ≤ 1000000) : I64 x := ⟨by omega, by omega⟩
theorem among5 (p k q m : Nat) (xs : List Int) (w : World) (hq : q = w.heap.size) (hm : m = xs.length) (h : Cur w p k) (hk : k + 2 ≤ 4294967296) (h1 : 1 ≤ xs.length) (hn : xs.length ≤ 1000) (hx : ∀ x ∈ xs, I64 x) :
    Calls Try.prog 36 #[.pointer (some ⟨p, 0, none⟩), .slice (some ⟨q, 0, none⟩) m m] (w.alloc (.cells (xs.map (Value.int .i64)).toArray 3)) fun e w' => ∃ y : Int, e = .returned (.int .i64 y) ∧ y ∈ xs ∧ Cur w' p (k + 2) ∧ w.grownBy w' (some p) := by
  subst hq
  subst hm
  have hal := (Below.refl w.heap.size w).alloc (Nat.le_refl _) (.cells (xs.map (Value.int .i64)).toArray 3)
  have hp := h.lt
  refine (among_any p k w.heap.size 0 xs.length xs.length _ xs _ (h.all hal) hk (lit_rd w xs hx hn) h1 hn (by omega)).mono ?_
  rintro e w' ⟨y, rfl, hy, hc, hg⟩
  exact ⟨y, rfl, hy, hc, grown_trans (below_grown hal) hg⟩
/-- .. out of the head of such a list. -/
theorem among_head (p k q c n B : Nat) (xs : List Int) (w : World) (h : Cur w p k) (hk : k + 2 ≤ 4294967296) (hR : Rd w B (some ⟨q, 0, none⟩) c c xs) (h1 : 1 ≤ n) (hn : n ≤ c) (hc : c ≤ 1000) (hqp : q ≠ p) :
    Calls Try.prog 36 #[.pointer (some ⟨p, 0, none⟩), .slice (some ⟨q, 0, none⟩) n c] w (Drew w p (k + 2) fun y => y ∈ xs) := by
  have hl := hR.len
  have hH : Rd w B (some ⟨q, 0, none⟩) n c (xs.take n) := by
    refine ⟨by rw [List.length_take]; omega, hn, hR.max, fun _ => ?_, fun x hx => hR.fits x (List.mem_of_mem_take hx), fun e => by cases e⟩
    obtain ⟨b, off, e, hb, hcl⟩ := hR.cells (by omega)
    refine ⟨b, off, e, hb, fun j hj => ?_⟩
    rw [hcl j (by omega)]
    simp [List.getD_eq_getElem?_getD, hj]
  refine (among_any p k q 0 n c B _ w h hk hH h1 (by omega) hqp).mono ?_
  rintro e w' ⟨y, rfl, hy, hc, hg⟩
  exact ⟨y, rfl, List.mem_of_mem_take hy, hc, hg⟩
theorem cur_set {w : World} {p k : Nat} (h : Cur w p k) {a : Addr} (hp : p < a.block) (v : Value) : Cur (w.setCell a v) p k := h.mark (grown_setCell w a v) (fun z hz => by cases hz; exact hp)
theorem grown_set {w w1 : World} {row : Option Nat} (h : w.grownBy w1 row) {a : Addr} (hp : w.heap.size ≤ a.block) (v : Value) : w.grownBy (w1.setCell a v) row :=
  ⟨h.os, h.tape, h.output, Nat.le_trans h.size (by simp [World.setCell]), fun k hk hne => (heap_setCell_other w1 a k v (by omega)).trans (h.block k hk hne)⟩
theorem blk_set {w : World} {p : Nat} {t : TypeId} {cs : Array Value} (h : Blk w p t cs) {a : Addr} (ha : p ≠ a.block) (u : Value) : Blk (w.setCell a u) p t cs := h.far ha u
/-- What a draw of a loom leaves. -/
def DrewLoom (w : World) (p k : Nat) (e : Ending) (w' : World) : Prop := ∃ s : LoomR, e = .returned (.agg #[.int .i64 s.f0, .int .i64 s.f1, .int .i64 s.f2, .int .i64 s.f3, .int .i64 s.f4]) ∧ s.ok ∧ Cur w' p k ∧ w.grownBy w' (some p)
set_option maxRecDepth 100000 in
set_option maxHeartbeats 16000000 in
theorem loom_any (p k : Nat) (id : Int) (w : World) (h : Cur w p k) (hk : k + 100 ≤ 4294967296) (hid : -1000000 ≤ id ∧ id ≤ 1000000) :
    Calls Try.prog 54 #[.pointer (some ⟨p, 0, none⟩), .int .i64 id] w (DrewLoom w p (k + 100)) := by
  have hpw := h.lt
  have r4 := Blk.new w #[.int .i64 0, .int .i64 0, .int .i64 0, .int .i64 0, .int .i64 0] 37
  have hb0 : Below w.heap.size w (w.alloc (.cells #[.int .i64 0, .int .i64 0, .int .i64 0, .int .i64 0, .int .i64 0] 37)) := (Below.refl _ _).alloc (Nat.le_refl _) _
  have HG := below_grown (row := some p) hb0
  have hc0 := h.all hb0
  clear h hb0
  have Iid : I64 id := i64_small5 hid.1 hid.2
  have I0 : I64 0 := i64_small5 (by decide) (by decide)
  clear hid
  go_enter Try.func54, Try.ntmps54
  go_wp2_with fail
  refine (among5 p (k + 0) (w.heap.size + 1) 5 [30, 120, 120, 300, 600] (w.alloc (.cells #[.int .i64 0, .int .i64 0, .int .i64 0, .int .i64 0, .int .i64 0] 37)) (by simp) rfl hc0 (by omega) (by decide) (by decide) (i64_lit (by decide))).mono ?_
  rintro e w1 ⟨y1, rfl, hy1, hc1, hg1⟩
  have by1 := (show ∀ x ∈ ([30, 120, 120, 300, 600] : List Int), 30 ≤ x ∧ x ≤ 600 by decide) y1 hy1
  have Iy1 := i64_lit (l := [30, 120, 120, 300, 600]) (by decide) y1 hy1
  clear hy1
  replace r4 := r4.mark hg1 (fun z hz => by cases hz; omega)
  replace HG := grown_trans HG hg1
  clear hc0 hg1
  go_wp2_with fail
  refine (among5 p (k + 2) (w1.heap.size) 6 [0, 0, 1, 2, 2, 3] (w1) rfl rfl hc1 (by omega) (by decide) (by decide) (i64_lit (by decide))).mono ?_
  rintro e w2 ⟨y2, rfl, hy2, hc2, hg2⟩
  have by2 := (show ∀ x ∈ ([0, 0, 1, 2, 2, 3] : List Int), 0 ≤ x ∧ x ≤ 3 by decide) y2 hy2
  have Iy2 := i64_lit (l := [0, 0, 1, 2, 2, 3]) (by decide) y2 hy2
  clear hy2
  replace r4 := r4.mark hg2 (fun z hz => by cases hz; omega)
  replace HG := grown_trans HG hg2
  clear hc1 hg2
  have h2lt : w.heap.size < w2.heap.size := r4.lt
  have ob := (Below.refl w2.heap.size w2).alloc (Nat.le_refl _) (.cells #[.int .i64 id, .int .i64 y1, .int .i64 0, .int .i64 0, .int .i64 y2] 37)
  have r5 := Blk.new w2 #[.int .i64 id, .int .i64 y1, .int .i64 0, .int .i64 0, .int .i64 y2] 37
  replace r4 := r4.all ob
  replace hc2 := hc2.all ob
  replace HG := grown_trans HG (below_grown (row := some p) ob)
  have hz4 := HG.size
  have hz2 : w.heap.size < w2.heap.size := h2lt
  clear ob
  obtain ⟨w3, hw3⟩ : ∃ w3, w2.alloc (.cells #[.int .i64 id, .int .i64 y1, .int .i64 0, .int .i64 0, .int .i64 y2] 37) = w3 := ⟨_, rfl⟩
  obtain ⟨P, hP⟩ : ∃ P, w2.heap.size = P := ⟨_, rfl⟩
  by_cases hy0 : y2 = 0
  · subst hy0
    rw [hw3] at r4 r5 hc2 HG hz4
    rw [hP] at r5 hz2
    subst hw3
    subst hP
    have hp5 : p < w2.heap.size := Nat.lt_trans hpw hz2
    have hg5 : w.heap.size ≤ w2.heap.size := Nat.le_of_lt hz2
    go_wp2_with fail
    refine (pick_any p (k + 4) 70 (w2.alloc (.cells #[.int .i64 id, .int .i64 y1, .int .i64 0, .int .i64 0, .int .i64 0] 37)) hc2 (by omega) (by omega) (by omega)).mono ?_
    rintro e w8 ⟨x, rfl, ⟨x0, x1⟩, hc8, hg8⟩
    replace r4 := r4.mark hg8 (fun z hz => by cases hz; omega)
    replace r5 := r5.mark hg8 (fun z hz => by cases hz; omega)
    replace HG := grown_trans HG hg8
    replace hc8 := hc8.more (show _ ≤ k + 50 by omega)
    clear hg8 x1
    have hz8 := HG.size
    have hz5 := r5.lt
    by_cases hx0 : x = 0
    · subst hx0
      have u0 := r5.cell 0
      have u1 := r5.cell 1
      have u2 := r5.cell 2
      have u3 := r5.cell 3
      have u4 := r5.cell 4
      go_wp2_with fail
      refine (among5 p (k + 50) (w8.heap.size) 3 [0, 99, 100] (w8) rfl rfl hc8 (by omega) (by decide) (by decide) (i64_lit (by decide))).mono ?_
      rintro e w9 ⟨y9, rfl, hy9, hc9, hg9⟩
      have by9 := (show ∀ x ∈ ([0, 99, 100] : List Int), 0 ≤ x ∧ x ≤ 100 by decide) y9 hy9
      have Iy9 := i64_lit (l := [0, 99, 100]) (by decide) y9 hy9
      clear hy9
      clear u0 u1 u2 u3 u4
      replace r4 := r4.mark hg9 (fun z hz => by cases hz; omega)
      replace r5 := r5.mark hg9 (fun z hz => by cases hz; omega)
      replace HG := grown_trans HG hg9
      replace hc9 := hc9.more (show _ ≤ k + 100 by omega)
      clear hg9 hc8
      have u0 := r5.cell 0
      have u1 := r5.cell 1
      have u2 := r5.cell 2
      have u3 := r5.cell 3
      have u4 := r5.cell 4
      have g0 := r5.frozen 0
      have g1 := r5.frozen 1
      have g2 := r5.frozen 2
      have g3 := r5.frozen 3
      have g4 := r5.frozen 4
      have v0 := r4.cell 0
      have v1 := r4.cell 1
      have v2 := r4.cell 2
      have v3 := r4.cell 3
      have v4 := r4.cell 4
      have f0 := r4.frozen 0
      have f1 := r4.frozen 1
      have f2 := r4.frozen 2
      have f3 := r4.frozen 3
      have f4 := r4.frozen 4
      go_wp2
      refine bodyPost_ret (v := .agg #[.int .i64 y9, .int .i64 y1, .int .i64 0, .int .i64 0, .int .i64 0]) (by first | (simp [results, Try.results54, go_sem, v0, v1, v2, v3, v4]; done) | simp [results, Try.results54, go_sem, *]) rfl ⟨⟨y9, y1, 0, 0, 0⟩, rfl, ⟨Iy9, Iy1, I0, I0, I0⟩, (cur_set (a := ⟨w.heap.size, 4, none⟩) (cur_set (a := ⟨w.heap.size, 3, none⟩) (cur_set (a := ⟨w.heap.size, 2, none⟩) (cur_set (a := ⟨w.heap.size, 1, none⟩) (cur_set (a := ⟨w.heap.size, 0, none⟩) (cur_set (a := ⟨w2.heap.size, 0, none⟩) hc9 hp5 _) hpw _) hpw _) hpw _) hpw _) hpw _), (grown_set (a := ⟨w.heap.size, 4, none⟩) (grown_set (a := ⟨w.heap.size, 3, none⟩) (grown_set (a := ⟨w.heap.size, 2, none⟩) (grown_set (a := ⟨w.heap.size, 1, none⟩) (grown_set (a := ⟨w.heap.size, 0, none⟩) (grown_set (a := ⟨w2.heap.size, 0, none⟩) HG hg5 _) (Nat.le_refl _) _) (Nat.le_refl _) _) (Nat.le_refl _) _) (Nat.le_refl _) _) (Nat.le_refl _) _)⟩
    by_cases hx1 : x = 1
    · subst hx1
      have u0 := r5.cell 0
      have u1 := r5.cell 1
      have u2 := r5.cell 2
      have u3 := r5.cell 3
      have u4 := r5.cell 4
      go_wp2_with fail
      refine (among5 p (k + 50) (w8.heap.size) 2 [29, 601] (w8) rfl rfl hc8 (by omega) (by decide) (by decide) (i64_lit (by decide))).mono ?_
      rintro e w9 ⟨y9, rfl, hy9, hc9, hg9⟩
      have by9 := (show ∀ x ∈ ([29, 601] : List Int), 29 ≤ x ∧ x ≤ 601 by decide) y9 hy9
      have Iy9 := i64_lit (l := [29, 601]) (by decide) y9 hy9
      clear hy9
      clear u0 u1 u2 u3 u4
      replace r4 := r4.mark hg9 (fun z hz => by cases hz; omega)
      replace r5 := r5.mark hg9 (fun z hz => by cases hz; omega)
      replace HG := grown_trans HG hg9
      replace hc9 := hc9.more (show _ ≤ k + 100 by omega)
      clear hg9 hc8
      have u0 := r5.cell 0
      have u1 := r5.cell 1
      have u2 := r5.cell 2
      have u3 := r5.cell 3
      have u4 := r5.cell 4
      have g0 := r5.frozen 0
      have g1 := r5.frozen 1
      have g2 := r5.frozen 2
      have g3 := r5.frozen 3
      have g4 := r5.frozen 4
      have v0 := r4.cell 0
      have v1 := r4.cell 1
      have v2 := r4.cell 2
      have v3 := r4.cell 3
      have v4 := r4.cell 4
      have f0 := r4.frozen 0
      have f1 := r4.frozen 1
      have f2 := r4.frozen 2
      have f3 := r4.frozen 3
      have f4 := r4.frozen 4
      go_wp2
      refine bodyPost_ret (v := .agg #[.int .i64 id, .int .i64 y9, .int .i64 0, .int .i64 0, .int .i64 0]) (by first | (simp [results, Try.results54, go_sem, v0, v1, v2, v3, v4]; done) | simp [results, Try.results54, go_sem, *]) rfl ⟨⟨id, y9, 0, 0, 0⟩, rfl, ⟨Iid, Iy9, I0, I0, I0⟩, (cur_set (a := ⟨w.heap.size, 4, none⟩) (cur_set (a := ⟨w.heap.size, 3, none⟩) (cur_set (a := ⟨w.heap.size, 2, none⟩) (cur_set (a := ⟨w.heap.size, 1, none⟩) (cur_set (a := ⟨w.heap.size, 0, none⟩) (cur_set (a := ⟨w2.heap.size, 1, none⟩) hc9 hp5 _) hpw _) hpw _) hpw _) hpw _) hpw _), (grown_set (a := ⟨w.heap.size, 4, none⟩) (grown_set (a := ⟨w.heap.size, 3, none⟩) (grown_set (a := ⟨w.heap.size, 2, none⟩) (grown_set (a := ⟨w.heap.size, 1, none⟩) (grown_set (a := ⟨w.heap.size, 0, none⟩) (grown_set (a := ⟨w2.heap.size, 1, none⟩) HG hg5 _) (Nat.le_refl _) _) (Nat.le_refl _) _) (Nat.le_refl _) _) (Nat.le_refl _) _) (Nat.le_refl _) _)⟩
    by_cases hx2 : x = 2
    · subst hx2
      have u0 := r5.cell 0
      have u1 := r5.cell 1
      have u2 := r5.cell 2
      have u3 := r5.cell 3
      have u4 := r5.cell 4
      go_wp2_with fail
      refine (among5 p (k + 50) (w8.heap.size) 5 [-1, 9, 361, 4000, 4001] (w8) rfl rfl hc8 (by omega) (by decide) (by decide) (i64_lit (by decide))).mono ?_
      rintro e w9 ⟨y9, rfl, hy9, hc9, hg9⟩
      have by9 := (show ∀ x ∈ ([-1, 9, 361, 4000, 4001] : List Int), -1 ≤ x ∧ x ≤ 4001 by decide) y9 hy9
      have Iy9 := i64_lit (l := [-1, 9, 361, 4000, 4001]) (by decide) y9 hy9
      clear hy9
      clear u0 u1 u2 u3 u4
      replace r4 := r4.mark hg9 (fun z hz => by cases hz; omega)
      replace r5 := r5.mark hg9 (fun z hz => by cases hz; omega)
      replace HG := grown_trans HG hg9
      replace hc9 := hc9.more (show _ ≤ k + 100 by omega)
      clear hg9 hc8
      have u0 := r5.cell 0
      have u1 := r5.cell 1
      have u2 := r5.cell 2
      have u3 := r5.cell 3
      have u4 := r5.cell 4
      have g0 := r5.frozen 0
      have g1 := r5.frozen 1
      have g2 := r5.frozen 2
      have g3 := r5.frozen 3
      have g4 := r5.frozen 4
      have v0 := r4.cell 0
      have v1 := r4.cell 1
      have v2 := r4.cell 2
      have v3 := r4.cell 3
      have v4 := r4.cell 4
      have f0 := r4.frozen 0
      have f1 := r4.frozen 1
      have f2 := r4.frozen 2
      have f3 := r4.frozen 3
      have f4 := r4.frozen 4
      go_wp2
      refine bodyPost_ret (v := .agg #[.int .i64 id, .int .i64 y1, .int .i64 y9, .int .i64 0, .int .i64 0]) (by first | (simp [results, Try.results54, go_sem, v0, v1, v2, v3, v4]; done) | simp [results, Try.results54, go_sem, *]) rfl ⟨⟨id, y1, y9, 0, 0⟩, rfl, ⟨Iid, Iy1, Iy9, I0, I0⟩, (cur_set (a := ⟨w.heap.size, 4, none⟩) (cur_set (a := ⟨w.heap.size, 3, none⟩) (cur_set (a := ⟨w.heap.size, 2, none⟩) (cur_set (a := ⟨w.heap.size, 1, none⟩) (cur_set (a := ⟨w.heap.size, 0, none⟩) (cur_set (a := ⟨w2.heap.size, 2, none⟩) hc9 hp5 _) hpw _) hpw _) hpw _) hpw _) hpw _), (grown_set (a := ⟨w.heap.size, 4, none⟩) (grown_set (a := ⟨w.heap.size, 3, none⟩) (grown_set (a := ⟨w.heap.size, 2, none⟩) (grown_set (a := ⟨w.heap.size, 1, none⟩) (grown_set (a := ⟨w.heap.size, 0, none⟩) (grown_set (a := ⟨w2.heap.size, 2, none⟩) HG hg5 _) (Nat.le_refl _) _) (Nat.le_refl _) _) (Nat.le_refl _) _) (Nat.le_refl _) _) (Nat.le_refl _) _)⟩
    by_cases hx3 : x = 3
    · subst hx3
      have u0 := r5.cell 0
      have u1 := r5.cell 1
      have u2 := r5.cell 2
      have u3 := r5.cell 3
      have u4 := r5.cell 4
      go_wp2_with fail
      refine (among5 p (k + 50) (w8.heap.size) 4 [-1, 0, 49, 501] (w8) rfl rfl hc8 (by omega) (by decide) (by decide) (i64_lit (by decide))).mono ?_
      rintro e w9 ⟨y9, rfl, hy9, hc9, hg9⟩
      have by9 := (show ∀ x ∈ ([-1, 0, 49, 501] : List Int), -1 ≤ x ∧ x ≤ 501 by decide) y9 hy9
      have Iy9 := i64_lit (l := [-1, 0, 49, 501]) (by decide) y9 hy9
      clear hy9
      clear u0 u1 u2 u3 u4
      replace r4 := r4.mark hg9 (fun z hz => by cases hz; omega)
      replace r5 := r5.mark hg9 (fun z hz => by cases hz; omega)
      replace HG := grown_trans HG hg9
      replace hc9 := hc9.more (show _ ≤ k + 100 by omega)
      clear hg9 hc8
      have u0 := r5.cell 0
      have u1 := r5.cell 1
      have u2 := r5.cell 2
      have u3 := r5.cell 3
      have u4 := r5.cell 4
      have g0 := r5.frozen 0
      have g1 := r5.frozen 1
      have g2 := r5.frozen 2
      have g3 := r5.frozen 3
      have g4 := r5.frozen 4
      have v0 := r4.cell 0
      have v1 := r4.cell 1
      have v2 := r4.cell 2
      have v3 := r4.cell 3
      have v4 := r4.cell 4
      have f0 := r4.frozen 0
      have f1 := r4.frozen 1
      have f2 := r4.frozen 2
      have f3 := r4.frozen 3
      have f4 := r4.frozen 4
      go_wp2
      refine bodyPost_ret (v := .agg #[.int .i64 id, .int .i64 y1, .int .i64 0, .int .i64 y9, .int .i64 0]) (by first | (simp [results, Try.results54, go_sem, v0, v1, v2, v3, v4]; done) | simp [results, Try.results54, go_sem, *]) rfl ⟨⟨id, y1, 0, y9, 0⟩, rfl, ⟨Iid, Iy1, I0, Iy9, I0⟩, (cur_set (a := ⟨w.heap.size, 4, none⟩) (cur_set (a := ⟨w.heap.size, 3, none⟩) (cur_set (a := ⟨w.heap.size, 2, none⟩) (cur_set (a := ⟨w.heap.size, 1, none⟩) (cur_set (a := ⟨w.heap.size, 0, none⟩) (cur_set (a := ⟨w2.heap.size, 3, none⟩) hc9 hp5 _) hpw _) hpw _) hpw _) hpw _) hpw _), (grown_set (a := ⟨w.heap.size, 4, none⟩) (grown_set (a := ⟨w.heap.size, 3, none⟩) (grown_set (a := ⟨w.heap.size, 2, none⟩) (grown_set (a := ⟨w.heap.size, 1, none⟩) (grown_set (a := ⟨w.heap.size, 0, none⟩) (grown_set (a := ⟨w2.heap.size, 3, none⟩) HG hg5 _) (Nat.le_refl _) _) (Nat.le_refl _) _) (Nat.le_refl _) _) (Nat.le_refl _) _) (Nat.le_refl _) _)⟩
    by_cases hx4 : x = 4
    · subst hx4
      have u0 := r5.cell 0
      have u1 := r5.cell 1
      have u2 := r5.cell 2
      have u3 := r5.cell 3
      have u4 := r5.cell 4
      go_wp2_with fail
      refine (among5 p (k + 50) (w8.heap.size) 3 [-1, 0, 4] (w8) rfl rfl hc8 (by omega) (by decide) (by decide) (i64_lit (by decide))).mono ?_
      rintro e w9 ⟨y9, rfl, hy9, hc9, hg9⟩
      have by9 := (show ∀ x ∈ ([-1, 0, 4] : List Int), -1 ≤ x ∧ x ≤ 4 by decide) y9 hy9
      have Iy9 := i64_lit (l := [-1, 0, 4]) (by decide) y9 hy9
      clear hy9
      clear u0 u1 u2 u3 u4
      replace r4 := r4.mark hg9 (fun z hz => by cases hz; omega)
      replace r5 := r5.mark hg9 (fun z hz => by cases hz; omega)
      replace HG := grown_trans HG hg9
      replace hc9 := hc9.more (show _ ≤ k + 100 by omega)
      clear hg9 hc8
      have u0 := r5.cell 0
      have u1 := r5.cell 1
      have u2 := r5.cell 2
      have u3 := r5.cell 3
      have u4 := r5.cell 4
      have g0 := r5.frozen 0
      have g1 := r5.frozen 1
      have g2 := r5.frozen 2
      have g3 := r5.frozen 3
      have g4 := r5.frozen 4
      have v0 := r4.cell 0
      have v1 := r4.cell 1
      have v2 := r4.cell 2
      have v3 := r4.cell 3
      have v4 := r4.cell 4
      have f0 := r4.frozen 0
      have f1 := r4.frozen 1
      have f2 := r4.frozen 2
      have f3 := r4.frozen 3
      have f4 := r4.frozen 4
      go_wp2
      refine bodyPost_ret (v := .agg #[.int .i64 id, .int .i64 y1, .int .i64 0, .int .i64 0, .int .i64 y9]) (by first | (simp [results, Try.results54, go_sem, v0, v1, v2, v3, v4]; done) | simp [results, Try.results54, go_sem, *]) rfl ⟨⟨id, y1, 0, 0, y9⟩, rfl, ⟨Iid, Iy1, I0, I0, Iy9⟩, (cur_set (a := ⟨w.heap.size, 4, none⟩) (cur_set (a := ⟨w.heap.size, 3, none⟩) (cur_set (a := ⟨w.heap.size, 2, none⟩) (cur_set (a := ⟨w.heap.size, 1, none⟩) (cur_set (a := ⟨w.heap.size, 0, none⟩) (cur_set (a := ⟨w2.heap.size, 4, none⟩) hc9 hp5 _) hpw _) hpw _) hpw _) hpw _) hpw _), (grown_set (a := ⟨w.heap.size, 4, none⟩) (grown_set (a := ⟨w.heap.size, 3, none⟩) (grown_set (a := ⟨w.heap.size, 2, none⟩) (grown_set (a := ⟨w.heap.size, 1, none⟩) (grown_set (a := ⟨w.heap.size, 0, none⟩) (grown_set (a := ⟨w2.heap.size, 4, none⟩) HG hg5 _) (Nat.le_refl _) _) (Nat.le_refl _) _) (Nat.le_refl _) _) (Nat.le_refl _) _) (Nat.le_refl _) _)⟩
    have hx0' : (x == 0) = false := by simpa using hx0
    have hx1' : (x == 1) = false := by simpa using hx1
    have hx2' : (x == 2) = false := by simpa using hx2
    have hx3' : (x == 3) = false := by simpa using hx3
    have hx4' : (x == 4) = false := by simpa using hx4
    clear hx0 hx1 hx2 hx3 hx4
    have hc9 := hc8.more (show _ ≤ k + 100 by omega)
    clear hc8
    have u0 := r5.cell 0
    have u1 := r5.cell 1
    have u2 := r5.cell 2
    have u3 := r5.cell 3
    have u4 := r5.cell 4
    have g0 := r5.frozen 0
    have g1 := r5.frozen 1
    have g2 := r5.frozen 2
    have g3 := r5.frozen 3
    have g4 := r5.frozen 4
    have v0 := r4.cell 0
    have v1 := r4.cell 1
    have v2 := r4.cell 2
    have v3 := r4.cell 3
    have v4 := r4.cell 4
    have f0 := r4.frozen 0
    have f1 := r4.frozen 1
    have f2 := r4.frozen 2
    have f3 := r4.frozen 3
    have f4 := r4.frozen 4
    go_wp2
    refine bodyPost_ret (v := .agg #[.int .i64 id, .int .i64 y1, .int .i64 0, .int .i64 0, .int .i64 0]) (by first | (simp [results, Try.results54, go_sem, v0, v1, v2, v3, v4]; done) | simp [results, Try.results54, go_sem, *]) rfl ⟨⟨id, y1, 0, 0, 0⟩, rfl, ⟨Iid, Iy1, I0, I0, I0⟩, (cur_set (a := ⟨w.heap.size, 4, none⟩) (cur_set (a := ⟨w.heap.size, 3, none⟩) (cur_set (a := ⟨w.heap.size, 2, none⟩) (cur_set (a := ⟨w.heap.size, 1, none⟩) (cur_set (a := ⟨w.heap.size, 0, none⟩) hc9 hpw _) hpw _) hpw _) hpw _) hpw _), (grown_set (a := ⟨w.heap.size, 4, none⟩) (grown_set (a := ⟨w.heap.size, 3, none⟩) (grown_set (a := ⟨w.heap.size, 2, none⟩) (grown_set (a := ⟨w.heap.size, 1, none⟩) (grown_set (a := ⟨w.heap.size, 0, none⟩) HG (Nat.le_refl _) _) (Nat.le_refl _) _) (Nat.le_refl _) _) (Nat.le_refl _) _) (Nat.le_refl _) _)⟩
  have hy0' : (y2 != 0) = true := by simpa using hy0
  clear hy0
  subst hw3
  subst hP
  have hp5 : p < w2.heap.size := Nat.lt_trans hpw hz2
  have hg5 : w.heap.size ≤ w2.heap.size := Nat.le_of_lt hz2
  go_wp2_with fail
  refine (among5 p (k + 4) (w2.heap.size + 1) 4 [10, 200, 360, 400] (w2.alloc (.cells #[.int .i64 id, .int .i64 y1, .int .i64 0, .int .i64 0, .int .i64 y2] 37)) (by simp) rfl hc2 (by omega) (by decide) (by decide) (i64_lit (by decide))).mono ?_
  rintro e w3 ⟨y3, rfl, hy3, hc3, hg3⟩
  have by3 := (show ∀ x ∈ ([10, 200, 360, 400] : List Int), 10 ≤ x ∧ x ≤ 400 by decide) y3 hy3
  have Iy3 := i64_lit (l := [10, 200, 360, 400]) (by decide) y3 hy3
  clear hy3
  replace r4 := r4.mark hg3 (fun z hz => by cases hz; omega)
  replace r5 := r5.mark hg3 (fun z hz => by cases hz; omega)
  replace HG := grown_trans HG hg3
  clear hc2 hg3
  have hz3 := HG.size
  have hz5 := r5.lt
  have u0 := r5.cell 0
  have u1 := r5.cell 1
  have u2 := r5.cell 2
  have u3 := r5.cell 3
  have u4 := r5.cell 4
  have g2 := r5.frozen 2
  have g3 := r5.frozen 3
  have cs3 : Cur (w3.setCell ⟨w2.heap.size, 2, none⟩ (.int .i64 y3)) p (k + 6) := cur_set hc3 (by show p < w2.heap.size; omega) _
  go_wp2_with fail
  refine (among5 p (k + 6) (w3.heap.size) 6 [50, 52, 53, 110, 200, 500] (w3.setCell ⟨w2.heap.size, 2, none⟩ (.int .i64 y3)) (by simp) rfl cs3 (by omega) (by decide) (by decide) (i64_lit (by decide))).mono ?_
  rintro e w4 ⟨y4, rfl, hy4, hc4, hg4⟩
  have by4 := (show ∀ x ∈ ([50, 52, 53, 110, 200, 500] : List Int), 50 ≤ x ∧ x ≤ 500 by decide) y4 hy4
  have Iy4 := i64_lit (l := [50, 52, 53, 110, 200, 500]) (by decide) y4 hy4
  clear hy4
  clear u0 u1 u2 u3 u4 g2 g3
  replace r4 := (r4.far (a := ⟨w2.heap.size, 2, none⟩) (show w.heap.size ≠ w2.heap.size by omega) (.int .i64 y3)).mark hg4 (fun z hz => by cases hz; omega)
  replace r5 := (r5.set_ 2 (.int .i64 y3)).mark hg4 (fun z hz => by cases hz; omega)
  replace HG := grown_trans (grown_set HG (a := ⟨w2.heap.size, 2, none⟩) (by show w.heap.size ≤ w2.heap.size; omega) (.int .i64 y3)) hg4
  clear hc3 cs3 hg4
  have hz6 := HG.size
  have hz7 := r5.lt
  have u0 : w4.cell? ⟨w2.heap.size, 0, none⟩ = some (.int .i64 id) := r5.cell 0
  have u1 : w4.cell? ⟨w2.heap.size, 1, none⟩ = some (.int .i64 y1) := r5.cell 1
  have u2 : w4.cell? ⟨w2.heap.size, 2, none⟩ = some (.int .i64 y3) := r5.cell 2
  have u3 : w4.cell? ⟨w2.heap.size, 3, none⟩ = some (.int .i64 0) := r5.cell 3
  have u4 : w4.cell? ⟨w2.heap.size, 4, none⟩ = some (.int .i64 y2) := r5.cell 4
  have g2 := r5.frozen 2
  have g3 := r5.frozen 3
  have e12 : IntKind.i64.wrap (12 * y1) = 12 * y1 := IntWalk.i64_in _ (by omega)
  go_wp2_with fail
  refine (l1Least_any _ _ _).mono ?_
  rintro e w7 ⟨rfl, rfl⟩
  obtain ⟨v, hv⟩ : ∃ v, leastI y3 (12 * y1) = v := ⟨_, rfl⟩
  have Iv : I64 v := by unfold leastI at hv; split at hv <;> exact i64_small5 (by omega) (by omega)
  rw [hv]
  clear hv e12
  have cs4 : Cur ((w4.setCell ⟨w2.heap.size, 3, none⟩ (.int .i64 y4)).setCell ⟨w2.heap.size, 2, none⟩ (.int .i64 v)) p (k + 8) := cur_set (cur_set hc4 (by show p < w2.heap.size; omega) _) (by show p < w2.heap.size; omega) _
  replace r4 := (r4.far (a := ⟨w2.heap.size, 3, none⟩) (show w.heap.size ≠ w2.heap.size by omega) (.int .i64 y4)).far (a := ⟨w2.heap.size, 2, none⟩) (show w.heap.size ≠ w2.heap.size by omega) (.int .i64 v)
  replace r5 : Blk ((w4.setCell ⟨w2.heap.size, 3, none⟩ (.int .i64 y4)).setCell ⟨w2.heap.size, 2, none⟩ (.int .i64 v)) w2.heap.size 37 #[.int .i64 id, .int .i64 y1, .int .i64 v, .int .i64 y4, .int .i64 y2] := (r5.set_ 3 (.int .i64 y4)).set_ 2 (.int .i64 v)
  replace HG := grown_set (grown_set HG (a := ⟨w2.heap.size, 3, none⟩) (by show w.heap.size ≤ w2.heap.size; omega) (.int .i64 y4)) (a := ⟨w2.heap.size, 2, none⟩) (by show w.heap.size ≤ w2.heap.size; omega) (.int .i64 v)
  clear hc4
  go_wp2_with fail
  refine (pick_any p (k + 8) 70 ((w4.setCell ⟨w2.heap.size, 3, none⟩ (.int .i64 y4)).setCell ⟨w2.heap.size, 2, none⟩ (.int .i64 v)) cs4 (by omega) (by omega) (by omega)).mono ?_
  rintro e w8 ⟨x, rfl, ⟨x0, x1⟩, hc8, hg8⟩
  replace r4 := r4.mark hg8 (fun z hz => by cases hz; omega)
  replace r5 := r5.mark hg8 (fun z hz => by cases hz; omega)
  replace HG := grown_trans HG hg8
  replace hc8 := hc8.more (show _ ≤ k + 50 by omega)
  clear hg8 x1
  have hz8 := HG.size
  have hz5 := r5.lt
  by_cases hx0 : x = 0
  · subst hx0
    have u0 := r5.cell 0
    have u1 := r5.cell 1
    have u2 := r5.cell 2
    have u3 := r5.cell 3
    have u4 := r5.cell 4
    go_wp2_with fail
    refine (among5 p (k + 50) (w8.heap.size) 3 [0, 99, 100] (w8) rfl rfl hc8 (by omega) (by decide) (by decide) (i64_lit (by decide))).mono ?_
    rintro e w9 ⟨y9, rfl, hy9, hc9, hg9⟩
    have by9 := (show ∀ x ∈ ([0, 99, 100] : List Int), 0 ≤ x ∧ x ≤ 100 by decide) y9 hy9
    have Iy9 := i64_lit (l := [0, 99, 100]) (by decide) y9 hy9
    clear hy9
    clear u0 u1 u2 u3 u4
    replace r4 := r4.mark hg9 (fun z hz => by cases hz; omega)
    replace r5 := r5.mark hg9 (fun z hz => by cases hz; omega)
    replace HG := grown_trans HG hg9
    replace hc9 := hc9.more (show _ ≤ k + 100 by omega)
    clear hg9 hc8
    have u0 := r5.cell 0
    have u1 := r5.cell 1
    have u2 := r5.cell 2
    have u3 := r5.cell 3
    have u4 := r5.cell 4
    have g0 := r5.frozen 0
    have g1 := r5.frozen 1
    have g2 := r5.frozen 2
    have g3 := r5.frozen 3
    have g4 := r5.frozen 4
    have v0 := r4.cell 0
    have v1 := r4.cell 1
    have v2 := r4.cell 2
    have v3 := r4.cell 3
    have v4 := r4.cell 4
    have f0 := r4.frozen 0
    have f1 := r4.frozen 1
    have f2 := r4.frozen 2
    have f3 := r4.frozen 3
    have f4 := r4.frozen 4
    go_wp2
    refine bodyPost_ret (v := .agg #[.int .i64 y9, .int .i64 y1, .int .i64 v, .int .i64 y4, .int .i64 y2]) (by first | (simp [results, Try.results54, go_sem, v0, v1, v2, v3, v4]; done) | simp [results, Try.results54, go_sem, *]) rfl ⟨⟨y9, y1, v, y4, y2⟩, rfl, ⟨Iy9, Iy1, Iv, Iy4, Iy2⟩, (cur_set (a := ⟨w.heap.size, 4, none⟩) (cur_set (a := ⟨w.heap.size, 3, none⟩) (cur_set (a := ⟨w.heap.size, 2, none⟩) (cur_set (a := ⟨w.heap.size, 1, none⟩) (cur_set (a := ⟨w.heap.size, 0, none⟩) (cur_set (a := ⟨w2.heap.size, 0, none⟩) hc9 hp5 _) hpw _) hpw _) hpw _) hpw _) hpw _), (grown_set (a := ⟨w.heap.size, 4, none⟩) (grown_set (a := ⟨w.heap.size, 3, none⟩) (grown_set (a := ⟨w.heap.size, 2, none⟩) (grown_set (a := ⟨w.heap.size, 1, none⟩) (grown_set (a := ⟨w.heap.size, 0, none⟩) (grown_set (a := ⟨w2.heap.size, 0, none⟩) HG hg5 _) (Nat.le_refl _) _) (Nat.le_refl _) _) (Nat.le_refl _) _) (Nat.le_refl _) _) (Nat.le_refl _) _)⟩
  by_cases hx1 : x = 1
  · subst hx1
    have u0 := r5.cell 0
    have u1 := r5.cell 1
    have u2 := r5.cell 2
    have u3 := r5.cell 3
    have u4 := r5.cell 4
    go_wp2_with fail
    refine (among5 p (k + 50) (w8.heap.size) 2 [29, 601] (w8) rfl rfl hc8 (by omega) (by decide) (by decide) (i64_lit (by decide))).mono ?_
    rintro e w9 ⟨y9, rfl, hy9, hc9, hg9⟩
    have by9 := (show ∀ x ∈ ([29, 601] : List Int), 29 ≤ x ∧ x ≤ 601 by decide) y9 hy9
    have Iy9 := i64_lit (l := [29, 601]) (by decide) y9 hy9
    clear hy9
    clear u0 u1 u2 u3 u4
    replace r4 := r4.mark hg9 (fun z hz => by cases hz; omega)
    replace r5 := r5.mark hg9 (fun z hz => by cases hz; omega)
    replace HG := grown_trans HG hg9
    replace hc9 := hc9.more (show _ ≤ k + 100 by omega)
    clear hg9 hc8
    have u0 := r5.cell 0
    have u1 := r5.cell 1
    have u2 := r5.cell 2
    have u3 := r5.cell 3
    have u4 := r5.cell 4
    have g0 := r5.frozen 0
    have g1 := r5.frozen 1
    have g2 := r5.frozen 2
    have g3 := r5.frozen 3
    have g4 := r5.frozen 4
    have v0 := r4.cell 0
    have v1 := r4.cell 1
    have v2 := r4.cell 2
    have v3 := r4.cell 3
    have v4 := r4.cell 4
    have f0 := r4.frozen 0
    have f1 := r4.frozen 1
    have f2 := r4.frozen 2
    have f3 := r4.frozen 3
    have f4 := r4.frozen 4
    go_wp2
    refine bodyPost_ret (v := .agg #[.int .i64 id, .int .i64 y9, .int .i64 v, .int .i64 y4, .int .i64 y2]) (by first | (simp [results, Try.results54, go_sem, v0, v1, v2, v3, v4]; done) | simp [results, Try.results54, go_sem, *]) rfl ⟨⟨id, y9, v, y4, y2⟩, rfl, ⟨Iid, Iy9, Iv, Iy4, Iy2⟩, (cur_set (a := ⟨w.heap.size, 4, none⟩) (cur_set (a := ⟨w.heap.size, 3, none⟩) (cur_set (a := ⟨w.heap.size, 2, none⟩) (cur_set (a := ⟨w.heap.size, 1, none⟩) (cur_set (a := ⟨w.heap.size, 0, none⟩) (cur_set (a := ⟨w2.heap.size, 1, none⟩) hc9 hp5 _) hpw _) hpw _) hpw _) hpw _) hpw _), (grown_set (a := ⟨w.heap.size, 4, none⟩) (grown_set (a := ⟨w.heap.size, 3, none⟩) (grown_set (a := ⟨w.heap.size, 2, none⟩) (grown_set (a := ⟨w.heap.size, 1, none⟩) (grown_set (a := ⟨w.heap.size, 0, none⟩) (grown_set (a := ⟨w2.heap.size, 1, none⟩) HG hg5 _) (Nat.le_refl _) _) (Nat.le_refl _) _) (Nat.le_refl _) _) (Nat.le_refl _) _) (Nat.le_refl _) _)⟩
  by_cases hx2 : x = 2
  · subst hx2
    have u0 := r5.cell 0
    have u1 := r5.cell 1
    have u2 := r5.cell 2
    have u3 := r5.cell 3
    have u4 := r5.cell 4
    go_wp2_with fail
    refine (among5 p (k + 50) (w8.heap.size) 5 [-1, 9, 361, 4000, 4001] (w8) rfl rfl hc8 (by omega) (by decide) (by decide) (i64_lit (by decide))).mono ?_
    rintro e w9 ⟨y9, rfl, hy9, hc9, hg9⟩
    have by9 := (show ∀ x ∈ ([-1, 9, 361, 4000, 4001] : List Int), -1 ≤ x ∧ x ≤ 4001 by decide) y9 hy9
    have Iy9 := i64_lit (l := [-1, 9, 361, 4000, 4001]) (by decide) y9 hy9
    clear hy9
    clear u0 u1 u2 u3 u4
    replace r4 := r4.mark hg9 (fun z hz => by cases hz; omega)
    replace r5 := r5.mark hg9 (fun z hz => by cases hz; omega)
    replace HG := grown_trans HG hg9
    replace hc9 := hc9.more (show _ ≤ k + 100 by omega)
    clear hg9 hc8
    have u0 := r5.cell 0
    have u1 := r5.cell 1
    have u2 := r5.cell 2
    have u3 := r5.cell 3
    have u4 := r5.cell 4
    have g0 := r5.frozen 0
    have g1 := r5.frozen 1
    have g2 := r5.frozen 2
    have g3 := r5.frozen 3
    have g4 := r5.frozen 4
    have v0 := r4.cell 0
    have v1 := r4.cell 1
    have v2 := r4.cell 2
    have v3 := r4.cell 3
    have v4 := r4.cell 4
    have f0 := r4.frozen 0
    have f1 := r4.frozen 1
    have f2 := r4.frozen 2
    have f3 := r4.frozen 3
    have f4 := r4.frozen 4
    go_wp2
    refine bodyPost_ret (v := .agg #[.int .i64 id, .int .i64 y1, .int .i64 y9, .int .i64 y4, .int .i64 y2]) (by first | (simp [results, Try.results54, go_sem, v0, v1, v2, v3, v4]; done) | simp [results, Try.results54, go_sem, *]) rfl ⟨⟨id, y1, y9, y4, y2⟩, rfl, ⟨Iid, Iy1, Iy9, Iy4, Iy2⟩, (cur_set (a := ⟨w.heap.size, 4, none⟩) (cur_set (a := ⟨w.heap.size, 3, none⟩) (cur_set (a := ⟨w.heap.size, 2, none⟩) (cur_set (a := ⟨w.heap.size, 1, none⟩) (cur_set (a := ⟨w.heap.size, 0, none⟩) (cur_set (a := ⟨w2.heap.size, 2, none⟩) hc9 hp5 _) hpw _) hpw _) hpw _) hpw _) hpw _), (grown_set (a := ⟨w.heap.size, 4, none⟩) (grown_set (a := ⟨w.heap.size, 3, none⟩) (grown_set (a := ⟨w.heap.size, 2, none⟩) (grown_set (a := ⟨w.heap.size, 1, none⟩) (grown_set (a := ⟨w.heap.size, 0, none⟩) (grown_set (a := ⟨w2.heap.size, 2, none⟩) HG hg5 _) (Nat.le_refl _) _) (Nat.le_refl _) _) (Nat.le_refl _) _) (Nat.le_refl _) _) (Nat.le_refl _) _)⟩
  by_cases hx3 : x = 3
  · subst hx3
    have u0 := r5.cell 0
    have u1 := r5.cell 1
    have u2 := r5.cell 2
    have u3 := r5.cell 3
    have u4 := r5.cell 4
    go_wp2_with fail
    refine (among5 p (k + 50) (w8.heap.size) 4 [-1, 0, 49, 501] (w8) rfl rfl hc8 (by omega) (by decide) (by decide) (i64_lit (by decide))).mono ?_
    rintro e w9 ⟨y9, rfl, hy9, hc9, hg9⟩
    have by9 := (show ∀ x ∈ ([-1, 0, 49, 501] : List Int), -1 ≤ x ∧ x ≤ 501 by decide) y9 hy9
    have Iy9 := i64_lit (l := [-1, 0, 49, 501]) (by decide) y9 hy9
    clear hy9
    clear u0 u1 u2 u3 u4
    replace r4 := r4.mark hg9 (fun z hz => by cases hz; omega)
    replace r5 := r5.mark hg9 (fun z hz => by cases hz; omega)
    replace HG := grown_trans HG hg9
    replace hc9 := hc9.more (show _ ≤ k + 100 by omega)
    clear hg9 hc8
    have u0 := r5.cell 0
    have u1 := r5.cell 1
    have u2 := r5.cell 2
    have u3 := r5.cell 3
    have u4 := r5.cell 4
    have g0 := r5.frozen 0
    have g1 := r5.frozen 1
    have g2 := r5.frozen 2
    have g3 := r5.frozen 3
    have g4 := r5.frozen 4
    have v0 := r4.cell 0
    have v1 := r4.cell 1
    have v2 := r4.cell 2
    have v3 := r4.cell 3
    have v4 := r4.cell 4
    have f0 := r4.frozen 0
    have f1 := r4.frozen 1
    have f2 := r4.frozen 2
    have f3 := r4.frozen 3
    have f4 := r4.frozen 4
    go_wp2
    refine bodyPost_ret (v := .agg #[.int .i64 id, .int .i64 y1, .int .i64 v, .int .i64 y9, .int .i64 y2]) (by first | (simp [results, Try.results54, go_sem, v0, v1, v2, v3, v4]; done) | simp [results, Try.results54, go_sem, *]) rfl ⟨⟨id, y1, v, y9, y2⟩, rfl, ⟨Iid, Iy1, Iv, Iy9, Iy2⟩, (cur_set (a := ⟨w.heap.size, 4, none⟩) (cur_set (a := ⟨w.heap.size, 3, none⟩) (cur_set (a := ⟨w.heap.size, 2, none⟩) (cur_set (a := ⟨w.heap.size, 1, none⟩) (cur_set (a := ⟨w.heap.size, 0, none⟩) (cur_set (a := ⟨w2.heap.size, 3, none⟩) hc9 hp5 _) hpw _) hpw _) hpw _) hpw _) hpw _), (grown_set (a := ⟨w.heap.size, 4, none⟩) (grown_set (a := ⟨w.heap.size, 3, none⟩) (grown_set (a := ⟨w.heap.size, 2, none⟩) (grown_set (a := ⟨w.heap.size, 1, none⟩) (grown_set (a := ⟨w.heap.size, 0, none⟩) (grown_set (a := ⟨w2.heap.size, 3, none⟩) HG hg5 _) (Nat.le_refl _) _) (Nat.le_refl _) _) (Nat.le_refl _) _) (Nat.le_refl _) _) (Nat.le_refl _) _)⟩
  by_cases hx4 : x = 4
  · subst hx4
    have u0 := r5.cell 0
    have u1 := r5.cell 1
    have u2 := r5.cell 2
    have u3 := r5.cell 3
    have u4 := r5.cell 4
    go_wp2_with fail
    refine (among5 p (k + 50) (w8.heap.size) 3 [-1, 0, 4] (w8) rfl rfl hc8 (by omega) (by decide) (by decide) (i64_lit (by decide))).mono ?_
    rintro e w9 ⟨y9, rfl, hy9, hc9, hg9⟩
    have by9 := (show ∀ x ∈ ([-1, 0, 4] : List Int), -1 ≤ x ∧ x ≤ 4 by decide) y9 hy9
    have Iy9 := i64_lit (l := [-1, 0, 4]) (by decide) y9 hy9
    clear hy9
    clear u0 u1 u2 u3 u4
    replace r4 := r4.mark hg9 (fun z hz => by cases hz; omega)
    replace r5 := r5.mark hg9 (fun z hz => by cases hz; omega)
    replace HG := grown_trans HG hg9
    replace hc9 := hc9.more (show _ ≤ k + 100 by omega)
    clear hg9 hc8
    have u0 := r5.cell 0
    have u1 := r5.cell 1
    have u2 := r5.cell 2
    have u3 := r5.cell 3
    have u4 := r5.cell 4
    have g0 := r5.frozen 0
    have g1 := r5.frozen 1
    have g2 := r5.frozen 2
    have g3 := r5.frozen 3
    have g4 := r5.frozen 4
    have v0 := r4.cell 0
    have v1 := r4.cell 1
    have v2 := r4.cell 2
    have v3 := r4.cell 3
    have v4 := r4.cell 4
    have f0 := r4.frozen 0
    have f1 := r4.frozen 1
    have f2 := r4.frozen 2
    have f3 := r4.frozen 3
    have f4 := r4.frozen 4
    go_wp2
    refine bodyPost_ret (v := .agg #[.int .i64 id, .int .i64 y1, .int .i64 v, .int .i64 y4, .int .i64 y9]) (by first | (simp [results, Try.results54, go_sem, v0, v1, v2, v3, v4]; done) | simp [results, Try.results54, go_sem, *]) rfl ⟨⟨id, y1, v, y4, y9⟩, rfl, ⟨Iid, Iy1, Iv, Iy4, Iy9⟩, (cur_set (a := ⟨w.heap.size, 4, none⟩) (cur_set (a := ⟨w.heap.size, 3, none⟩) (cur_set (a := ⟨w.heap.size, 2, none⟩) (cur_set (a := ⟨w.heap.size, 1, none⟩) (cur_set (a := ⟨w.heap.size, 0, none⟩) (cur_set (a := ⟨w2.heap.size, 4, none⟩) hc9 hp5 _) hpw _) hpw _) hpw _) hpw _) hpw _), (grown_set (a := ⟨w.heap.size, 4, none⟩) (grown_set (a := ⟨w.heap.size, 3, none⟩) (grown_set (a := ⟨w.heap.size, 2, none⟩) (grown_set (a := ⟨w.heap.size, 1, none⟩) (grown_set (a := ⟨w.heap.size, 0, none⟩) (grown_set (a := ⟨w2.heap.size, 4, none⟩) HG hg5 _) (Nat.le_refl _) _) (Nat.le_refl _) _) (Nat.le_refl _) _) (Nat.le_refl _) _) (Nat.le_refl _) _)⟩
  have hx0' : (x == 0) = false := by simpa using hx0
  have hx1' : (x == 1) = false := by simpa using hx1
  have hx2' : (x == 2) = false := by simpa using hx2
  have hx3' : (x == 3) = false := by simpa using hx3
  have hx4' : (x == 4) = false := by simpa using hx4
  clear hx0 hx1 hx2 hx3 hx4
  have hc9 := hc8.more (show _ ≤ k + 100 by omega)
  clear hc8
  have u0 := r5.cell 0
  have u1 := r5.cell 1
  have u2 := r5.cell 2
  have u3 := r5.cell 3
  have u4 := r5.cell 4
  have g0 := r5.frozen 0
  have g1 := r5.frozen 1
  have g2 := r5.frozen 2
  have g3 := r5.frozen 3
  have g4 := r5.frozen 4
  have v0 := r4.cell 0
  have v1 := r4.cell 1
  have v2 := r4.cell 2
  have v3 := r4.cell 3
  have v4 := r4.cell 4
  have f0 := r4.frozen 0
  have f1 := r4.frozen 1
  have f2 := r4.frozen 2
  have f3 := r4.frozen 3
  have f4 := r4.frozen 4
  go_wp2
  refine bodyPost_ret (v := .agg #[.int .i64 id, .int .i64 y1, .int .i64 v, .int .i64 y4, .int .i64 y2]) (by first | (simp [results, Try.results54, go_sem, v0, v1, v2, v3, v4]; done) | simp [results, Try.results54, go_sem, *]) rfl ⟨⟨id, y1, v, y4, y2⟩, rfl, ⟨Iid, Iy1, Iv, Iy4, Iy2⟩, (cur_set (a := ⟨w.heap.size, 4, none⟩) (cur_set (a := ⟨w.heap.size, 3, none⟩) (cur_set (a := ⟨w.heap.size, 2, none⟩) (cur_set (a := ⟨w.heap.size, 1, none⟩) (cur_set (a := ⟨w.heap.size, 0, none⟩) hc9 hpw _) hpw _) hpw _) hpw _) hpw _), (grown_set (a := ⟨w.heap.size, 4, none⟩) (grown_set (a := ⟨w.heap.size, 3, none⟩) (grown_set (a := ⟨w.heap.size, 2, none⟩) (grown_set (a := ⟨w.heap.size, 1, none⟩) (grown_set (a := ⟨w.heap.size, 0, none⟩) HG (Nat.le_refl _) _) (Nat.le_refl _) _) (Nat.le_refl _) _) (Nat.le_refl _) _) (Nat.le_refl _) _)⟩
end Go.Proofs.Ytoeognlfalbfkaa
