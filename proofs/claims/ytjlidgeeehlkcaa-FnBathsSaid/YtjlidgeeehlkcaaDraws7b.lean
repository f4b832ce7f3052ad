/- The draws of a bath and of grams of yarn. Condition: few draws. -/
import Derived.Test.YtjlidgeeehlkcaaDraws7
namespace Go.Proofs.Ytjlidgeeehlkcaa
open Go.RowKit

theorem fin7 {w w' : World} {p k lo R : Nat} {v a b c d : Value} {ys : List Int} (h : Own w' lo v ys) (hp : v.ownBlock ≠ some R) (hc : Cur w' p k) (hpR : p < R) (hg : w.grownBy w' (some p)) (hR : w.heap.size ≤ R) :
    Own ((((w'.setCell ⟨R, 0, none⟩ a).setCell ⟨R, 1, none⟩ b).setCell ⟨R, 2, none⟩ c).setCell ⟨R, 3, none⟩ d) lo v ys ∧ Cur ((((w'.setCell ⟨R, 0, none⟩ a).setCell ⟨R, 1, none⟩ b).setCell ⟨R, 2, none⟩ c).setCell ⟨R, 3, none⟩ d) p k ∧ w.grownBy ((((w'.setCell ⟨R, 0, none⟩ a).setCell ⟨R, 1, none⟩ b).setCell ⟨R, 2, none⟩ c).setCell ⟨R, 3, none⟩ d) (some p) :=
  ⟨(((h.far (a := ⟨R, 0, none⟩) hp a).far (a := ⟨R, 1, none⟩) hp b).far (a := ⟨R, 2, none⟩) hp c).far (a := ⟨R, 3, none⟩) hp d,
   cur_set (a := ⟨R, 3, none⟩) (cur_set (a := ⟨R, 2, none⟩) (cur_set (a := ⟨R, 1, none⟩) (cur_set (a := ⟨R, 0, none⟩) hc hpR a) hpR b) hpR c) hpR d,
   grown_set (a := ⟨R, 3, none⟩) (grown_set (a := ⟨R, 2, none⟩) (grown_set (a := ⟨R, 1, none⟩) (grown_set (a := ⟨R, 0, none⟩) hg hR a) hR b) hR c) hR d⟩
/-- What a draw of a bath leaves. -/
def DrewBath (w : World) (p k : Nat) (e : Ending) (w' : World) : Prop := ∃ (L T Y : Int) (A : Option Addr) (c : Nat) (ys : List Int), e = .returned (bathV L T Y (.slice A ys.length c)) ∧ (ys.length ≤ 9 ∧ I64 L ∧ I64 T ∧ I64 Y) ∧ Own w' w.heap.size (.slice A ys.length c) ys ∧ Cur w' p k ∧ w.grownBy w' (some p)
set_option maxRecDepth 100000 in
set_option maxHeartbeats 16000000 in
theorem bath_any (p k n c0 : Nat) (A0 : Option Addr) (w : World) (h : Cur w p k) (hk : k + 1000 ≤ 4294967296) (hn : n ≤ 8) : Calls Try.prog 35 #[.pointer (some ⟨p, 0, none⟩), .slice A0 n c0] w (DrewBath w p (k + 1000)) := by
  have hpw := h.lt
  have r4 := Blk.new w #[.int .i64 0, .int .i64 0, .int .i64 0, .slice none 0 0] 27
  have hb0 : Below w.heap.size w (w.alloc (.cells #[.int .i64 0, .int .i64 0, .int .i64 0, .slice none 0 0] 27)) := (Below.refl _ _).alloc (Nat.le_refl _) _
  have HG := Lib.hid (below_grown (row := some p) hb0)
  have hc0 := h.all hb0
  clear h hb0
  go_enter Try.func35, Try.ntmps35
  go_wp2_with fail
  refine (among5 p (k + 0) (w.heap.size + 1) 5 [1, 20, 40, 100, 500] (w.alloc (.cells #[.int .i64 0, .int .i64 0, .int .i64 0, .slice none 0 0] 27)) (by simp) rfl hc0 (by omega) (by decide) (by decide) (i64_lit (by decide))).mono ?_
  rintro e w1 ⟨y0, rfl, hy0, hc1, hg1⟩
  replace hy0 := i64_lit (l := [1, 20, 40, 100, 500]) (by decide) y0 hy0
  replace r4 := r4.mark hg1 (fun z hz => by cases hz; omega)
  replace HG := Lib.hid (grown_trans HG.out hg1)
  clear hc0 hg1
  go_wp2_with fail
  refine (among5 p (k + 2) (w1.heap.size) 6 [0, 60, 80, 80, 95, 96] w1 rfl rfl hc1 (by omega) (by decide) (by decide) (i64_lit (by decide))).mono ?_
  rintro e w2 ⟨y1, rfl, hy1, hc2, hg2⟩
  replace hy1 := i64_lit (l := [0, 60, 80, 80, 95, 96]) (by decide) y1 hy1
  replace r4 := r4.mark hg2 (fun z hz => by cases hz; omega)
  replace HG := Lib.hid (grown_trans HG.out hg2)
  clear hc1 hg2
  go_wp2_with fail
  refine (among5 p (k + 4) (w2.heap.size) 6 [0, 1, 1000, 1001, 2000, 50000] w2 rfl rfl hc2 (by omega) (by decide) (by decide) (i64_lit (by decide))).mono ?_
  rintro e w3 ⟨y2, rfl, hy2, hc3, hg3⟩
  replace hy2 := i64_lit (l := [0, 1, 1000, 1001, 2000, 50000]) (by decide) y2 hy2
  replace r4 := r4.mark hg3 (fun z hz => by cases hz; omega)
  replace HG := Lib.hid (grown_trans HG.out hg3)
  clear hc2 hg3
  have hz3 := HG.out.size
  have hrl := r4.lt
  have hb3 := (Below.refl w3.heap.size w3).alloc (Nat.le_refl _) (.cells #[.int .i64 y0, .int .i64 y1, .int .i64 y2, .slice none 0 0] 27)
  have r5 := Blk.new w3 #[.int .i64 y0, .int .i64 y1, .int .i64 y2, .slice none 0 0] 27
  replace r4 := r4.all hb3
  replace hc3 := hc3.all hb3
  replace HG := Lib.hid (grown_trans HG.out (below_grown (row := some p) hb3))
  clear hb3
  go_wp2
  obtain ⟨P, hP⟩ : ∃ q, w3.heap.size = q := ⟨_, rfl⟩
  rw [hP] at r5 hz3 hrl ⊢
  have hpP : p < P := by omega
  clear hP
  go_loopw [6] (fun ii wr => ∃ (i : Nat) (A : Option Addr) (c : Nat) (ys : List Int), ii = .int .i64 (i : Int) ∧ i ≤ n ∧ ys.length = i ∧ Own wr w.heap.size (.slice A i c) ys ∧ Blk wr w.heap.size 27 #[.int .i64 0, .int .i64 0, .int .i64 0, .slice none 0 0] ∧ Blk wr P 27 #[.int .i64 y0, .int .i64 y1, .int .i64 y2, .slice A i c] ∧ Cur wr p (k + 10 + 4 * i) ∧ Hid (w.grownBy wr (some p))) (fun ii _ => n - (intOf ii).toNat)
  case atStart => exact ⟨0, none, 0, [], rfl, Nat.zero_le _, rfl, Own.nil _ _, r4, r5, hc3.more (by omega), HG⟩
  case round =>
    obtain ⟨i, A, c, ys, rfl, hi, hyl, ho, r4, r5, hc, HGr⟩ := hrel
    have hbd := fun q hq => (ho.bd q hq).1
    have hzr := HGr.out.size
    have HYL := Lib.hid hyl
    clear hyl
    by_cases hlt : i < n
    · have hin : (i : Int) < (n : Int) := by omega
      go_wp2
      have hod := ho.drewN 1
      have r4d := r4.all (low_drewN wr 1)
      have r5d := r5.all (low_drewN wr 1)
      have hcd := cur_drew hc
      have HGd := Lib.hid (grown_trans HGr.out (drew_grown _ _))
      replace hod : Own wr.drew _ _ _ := hod
      replace r4d : Blk wr.drew _ _ _ := r4d
      replace r5d : Blk wr.drew _ _ _ := r5d
      have e3 := r5.cell 3
      have z3 := r5.frozen 3
      have eA := (r5.alloc (.cells #[.int .i64 0, .int .i64 100, .int .i64 334, .int .i64 2000, .int .i64 2000, .int .i64 50000] 3)).cell 3
      have eAd := (r5d.alloc (.cells #[.int .i64 0, .int .i64 100, .int .i64 334, .int .i64 2000, .int .i64 2000, .int .i64 50000] 3)).cell 3
      have hlr : i ≤ 1073741824 := by omega
      go_region_law (first | (refine step_append_one w4 rfl (.tmp 24) (.tmp 28) 25 rfl Try.underlying25 info_int w.heap.size i (.slice A i c) ys _ HYL.out (by simp [Act.eval]) (by simp [Act.eval]) ho4 hlr hy hz4 ?_; intro A5 c5 w5 ho5 hg5; have r46 := r44.mark hg5 (row_ne ho4.1 r44 (by decide)); have r56 := r54.mark hg5 (row_ne ho4.1 r54 (by decide)); have hc6 := hc4.mark hg5 (fun z hz => (by have := hbd z hz; omega)); have HG6 := Lib.hid (grown_far HG4.out hg5 hbd); have e36 := r56.cell 3; have z36 := r56.frozen 3) | (go_simp; go_at_call 49; refine (among5 p _ wr.heap.size 6 [0, 100, 334, 2000, 2000, 50000] wr.drew rfl rfl hcd (by omega) (by decide) (by decide) (i64_lit (by decide))).mono ?_; rintro e w4 ⟨y, rfl, hy, hc4, hg4⟩; replace hy := i64_lit (l := [0, 100, 334, 2000, 2000, 50000]) (by decide) y hy; have ho4 := hod.mark hg4 (fun z z' hz hz' => (by cases hz; have := hbd z' hz'; omega)); have r44 := r4d.mark hg4 (fun z hz => (by cases hz; omega)); have r54 := r5d.mark hg4 (fun z hz => (by cases hz; omega)); have HG4 := Lib.hid (grown_trans HGd.out hg4); have hz4 := HG4.out.size; have e34 := r54.cell 3; have z34 := r54.frozen 3; have eB := (r54.alloc (.cells #[.int .i64 y] 3)).cell 3))
      all_goals
        go_wp2
        go_roundw
        case rel => exact ⟨i + 1, A5, c5, ys ++ [y], by go_num, by omega, by rw [List.length_append, HYL.out]; rfl, ho5.far (row_ne' ho5.1 r56 (by decide)) _, r46.far (by show w.heap.size ≠ P; omega) _, by have := r56.set_ 3 (.slice A5 (i + 1) c5); simpa using this, (cur_set (a := ⟨P, 3, none⟩) hc6 hpP _).more (by omega), Lib.hid (grown_set (a := ⟨P, 3, none⟩) HG6.out hz3 _)⟩
        case measure => simp [intOf]; omega
    · obtain rfl : i = n := by omega
      have HY := HYL.out
      subst HY
      clear HYL hlt hi
      replace hc := hc.more (show _ ≤ k + 50 by omega)
      go_wp2_with fail
      refine (pick_any p _ 50 _ hc (by omega) (by omega) (by omega)).mono ?_
      rintro e w4 ⟨x, rfl, ⟨x0, x1⟩, hc4, hg4⟩
      have ho4 := ho.mark hg4 (fun z z' hz hz' => by cases hz; have := hbd z' hz'; omega)
      replace r4 := r4.mark hg4 (fun z hz => by cases hz; omega)
      replace r5 := r5.mark hg4 (fun z hz => by cases hz; omega)
      have HG4 := Lib.hid (grown_trans HGr.out hg4)
      clear ho hc HGr hg4 x0 x1
      by_cases hx0 : x = 0
      · subst hx0
        have u0 := r5.cell 0
        have u1 := r5.cell 1
        have u2 := r5.cell 2
        have u3 := r5.cell 3
        go_wp2_with fail
        refine (among5 p _ w4.heap.size 2 [0, 501] w4 rfl rfl hc4 (by omega) (by decide) (by decide) (i64_lit (by decide))).mono ?_
        rintro e w6 ⟨y9, rfl, hy8, hc6, hg6⟩
        have hy9 := i64_lit (l := [0, 501]) (by decide) y9 hy8
        have ho6 := ho4.mark hg6 (fun z z' hz hz' => by cases hz; have := hbd z' hz'; omega)
        have r46 := r4.mark hg6 (fun z hz => by cases hz; omega)
        have r56 := r5.mark hg6 (fun z hz => by cases hz; omega)
        have HG6 := Lib.hid (grown_trans HG4.out hg6)
        clear ho4 r4 r5 hc4 HG4 hg6 u0 u1 u2 u3 hy8
        have u0 := r56.cell 0
        have g0 := r56.frozen 0
        have v0 := r46.cell 0
        have f0 := r46.frozen 0
        have u1 := r56.cell 1
        have g1 := r56.frozen 1
        have v1 := r46.cell 1
        have f1 := r46.frozen 1
        have u2 := r56.cell 2
        have g2 := r56.frozen 2
        have v2 := r46.cell 2
        have f2 := r46.frozen 2
        have u3 := r56.cell 3
        have g3 := r56.frozen 3
        have v3 := r46.cell 3
        have f3 := r46.frozen 3
        have F := Lib.hid (fin7 (a := .int .i64 y9) (b := .int .i64 y1) (c := .int .i64 y2) (d := .slice A ys.length c) (ho6.far (a := ⟨P, 0, none⟩) (row_ne' ho6.1 r56 (by decide)) (.int .i64 y9)) (row_ne' ho6.1 r46 (by decide)) (cur_set (a := ⟨P, 0, none⟩) hc6 hpP (.int .i64 y9)) hpw (grown_set (a := ⟨P, 0, none⟩) HG6.out hz3 (.int .i64 y9)) (Nat.le_refl _))
        go_wp2
        refine bodyPost_ret (v := bathV y9 y1 y2 (.slice A ys.length c)) (by first | (simp [results, Try.results35, go_sem, v0, v1, v2, v3]; done) | simp [results, Try.results35, go_sem, *]) rfl ⟨y9, y1, y2, A, c, ys, rfl, ⟨by first | omega | (simp; omega), by assumption, by assumption, by assumption⟩, F.out.1, F.out.2.1.more (by omega), F.out.2.2⟩
      by_cases hx1 : x = 1
      · subst hx1
        clear hx0
        have u0 := r5.cell 0
        have u1 := r5.cell 1
        have u2 := r5.cell 2
        have u3 := r5.cell 3
        go_wp2_with fail
        refine (among5 p _ w4.heap.size 2 [-1, 101] w4 rfl rfl hc4 (by omega) (by decide) (by decide) (i64_lit (by decide))).mono ?_
        rintro e w6 ⟨y9, rfl, hy8, hc6, hg6⟩
        have hy9 := i64_lit (l := [-1, 101]) (by decide) y9 hy8
        have ho6 := ho4.mark hg6 (fun z z' hz hz' => by cases hz; have := hbd z' hz'; omega)
        have r46 := r4.mark hg6 (fun z hz => by cases hz; omega)
        have r56 := r5.mark hg6 (fun z hz => by cases hz; omega)
        have HG6 := Lib.hid (grown_trans HG4.out hg6)
        clear ho4 r4 r5 hc4 HG4 hg6 u0 u1 u2 u3 hy8
        have u0 := r56.cell 0
        have g0 := r56.frozen 0
        have v0 := r46.cell 0
        have f0 := r46.frozen 0
        have u1 := r56.cell 1
        have g1 := r56.frozen 1
        have v1 := r46.cell 1
        have f1 := r46.frozen 1
        have u2 := r56.cell 2
        have g2 := r56.frozen 2
        have v2 := r46.cell 2
        have f2 := r46.frozen 2
        have u3 := r56.cell 3
        have g3 := r56.frozen 3
        have v3 := r46.cell 3
        have f3 := r46.frozen 3
        have F := Lib.hid (fin7 (a := .int .i64 y0) (b := .int .i64 y9) (c := .int .i64 y2) (d := .slice A ys.length c) (ho6.far (a := ⟨P, 1, none⟩) (row_ne' ho6.1 r56 (by decide)) (.int .i64 y9)) (row_ne' ho6.1 r46 (by decide)) (cur_set (a := ⟨P, 1, none⟩) hc6 hpP (.int .i64 y9)) hpw (grown_set (a := ⟨P, 1, none⟩) HG6.out hz3 (.int .i64 y9)) (Nat.le_refl _))
        go_wp2
        refine bodyPost_ret (v := bathV y0 y9 y2 (.slice A ys.length c)) (by first | (simp [results, Try.results35, go_sem, v0, v1, v2, v3]; done) | simp [results, Try.results35, go_sem, *]) rfl ⟨y0, y9, y2, A, c, ys, rfl, ⟨by first | omega | (simp; omega), by assumption, by assumption, by assumption⟩, F.out.1, F.out.2.1.more (by omega), F.out.2.2⟩
      by_cases hx2 : x = 2
      · subst hx2
        clear hx0 hx1
        have u0 := r5.cell 0
        have u1 := r5.cell 1
        have u2 := r5.cell 2
        have u3 := r5.cell 3
        go_wp2_with fail
        refine (among5 p _ w4.heap.size 2 [-1, 50001] w4 rfl rfl hc4 (by omega) (by decide) (by decide) (i64_lit (by decide))).mono ?_
        rintro e w6 ⟨y9, rfl, hy8, hc6, hg6⟩
        have hy9 := i64_lit (l := [-1, 50001]) (by decide) y9 hy8
        have ho6 := ho4.mark hg6 (fun z z' hz hz' => by cases hz; have := hbd z' hz'; omega)
        have r46 := r4.mark hg6 (fun z hz => by cases hz; omega)
        have r56 := r5.mark hg6 (fun z hz => by cases hz; omega)
        have HG6 := Lib.hid (grown_trans HG4.out hg6)
        clear ho4 r4 r5 hc4 HG4 hg6 u0 u1 u2 u3 hy8
        have u0 := r56.cell 0
        have g0 := r56.frozen 0
        have v0 := r46.cell 0
        have f0 := r46.frozen 0
        have u1 := r56.cell 1
        have g1 := r56.frozen 1
        have v1 := r46.cell 1
        have f1 := r46.frozen 1
        have u2 := r56.cell 2
        have g2 := r56.frozen 2
        have v2 := r46.cell 2
        have f2 := r46.frozen 2
        have u3 := r56.cell 3
        have g3 := r56.frozen 3
        have v3 := r46.cell 3
        have f3 := r46.frozen 3
        have F := Lib.hid (fin7 (a := .int .i64 y0) (b := .int .i64 y1) (c := .int .i64 y9) (d := .slice A ys.length c) (ho6.far (a := ⟨P, 2, none⟩) (row_ne' ho6.1 r56 (by decide)) (.int .i64 y9)) (row_ne' ho6.1 r46 (by decide)) (cur_set (a := ⟨P, 2, none⟩) hc6 hpP (.int .i64 y9)) hpw (grown_set (a := ⟨P, 2, none⟩) HG6.out hz3 (.int .i64 y9)) (Nat.le_refl _))
        go_wp2
        refine bodyPost_ret (v := bathV y0 y1 y9 (.slice A ys.length c)) (by first | (simp [results, Try.results35, go_sem, v0, v1, v2, v3]; done) | simp [results, Try.results35, go_sem, *]) rfl ⟨y0, y1, y9, A, c, ys, rfl, ⟨by first | omega | (simp; omega), by assumption, by assumption, by assumption⟩, F.out.1, F.out.2.1.more (by omega), F.out.2.2⟩
      by_cases hx3 : x = 3
      · subst hx3
        clear hx0 hx1 hx2
        have u3 := r5.cell 3
        have g3 := r5.frozen 3
        have hz4 := HG4.out.size
        have I5 : I64 5 := i64_small5 (by decide) (by decide)
        go_wp2_with (refine wpList_append_one w4 rfl (.tmp 54) (.tmp 55) 25 rfl Try.underlying25 info_int w.heap.size _ ys 5 rfl rfl ho4 (by omega) I5 hz4 ?_)
        intro A5 c5 w5 ho5 hg5
        have r46 := r4.mark hg5 (row_ne ho4.1 r4 (by decide))
        have r56 := r5.mark hg5 (row_ne ho4.1 r5 (by decide))
        have hc6 := hc4.mark hg5 (fun z hz => by have := hbd z hz; omega)
        have HG6 := Lib.hid (grown_far HG4.out hg5 hbd)
        clear ho4 r4 r5 hc4 HG4 hg5 u3 g3
        obtain ⟨zs, hzs⟩ : ∃ zs, ys ++ [5] = zs := ⟨_, rfl⟩
        have hzl : ys.length + 1 = zs.length := by rw [← hzs, List.length_append]; rfl
        rw [hzs, hzl] at ho5
        rw [hzl]
        have hz9 : zs.length ≤ 9 := by omega
        clear hzs hzl
        have u0 := r56.cell 0
        have g0 := r56.frozen 0
        have v0 := r46.cell 0
        have f0 := r46.frozen 0
        have u1 := r56.cell 1
        have g1 := r56.frozen 1
        have v1 := r46.cell 1
        have f1 := r46.frozen 1
        have u2 := r56.cell 2
        have g2 := r56.frozen 2
        have v2 := r46.cell 2
        have f2 := r46.frozen 2
        have u3 := r56.cell 3
        have g3 := r56.frozen 3
        have v3 := r46.cell 3
        have f3 := r46.frozen 3
        have F := Lib.hid (fin7 (a := .int .i64 y0) (b := .int .i64 y1) (c := .int .i64 y2) (d := .slice A5 zs.length c5) (ho5.far (a := ⟨P, 3, none⟩) (row_ne' ho5.1 r56 (by decide)) (.slice A5 zs.length c5)) (row_ne' ho5.1 r46 (by decide)) (cur_set (a := ⟨P, 3, none⟩) hc6 hpP (.slice A5 zs.length c5)) hpw (grown_set (a := ⟨P, 3, none⟩) HG6.out hz3 (.slice A5 zs.length c5)) (Nat.le_refl _))
        go_wp2
        refine bodyPost_ret (v := bathV y0 y1 y2 (.slice A5 zs.length c5)) (by first | (simp [results, Try.results35, go_sem, v0, v1, v2, v3]; done) | simp [results, Try.results35, go_sem, *]) rfl ⟨y0, y1, y2, A5, c5, zs, rfl, ⟨by first | omega | (simp; omega), by assumption, by assumption, by assumption⟩, F.out.1, F.out.2.1.more (by omega), F.out.2.2⟩
      by_cases hx4 : x = 4
      · subst hx4
        clear hx0 hx1 hx2 hx3
        by_cases hy0 : 0 < ys.length
        · obtain ⟨g, rfl, hg1, hg2⟩ := ho4.some_ hy0
          have hyi : (0 : Int) < (ys.length : Int) := by omega
          have u3 := r5.cell 3
          have g3 := r5.frozen 3
          go_wp2
          have hod := ho4.drewN 1
          have r4d := r4.all (low_drewN w4 1)
          have r5d := r5.all (low_drewN w4 1)
          have hcd := cur_drew hc4
          have HGd := Lib.hid (grown_trans HG4.out (drew_grown _ _))
          replace hod : Own w4.drew _ _ _ := hod
          replace r4d : Blk w4.drew _ _ _ := r4d
          replace r5d : Blk w4.drew _ _ _ := r5d
          have eA := (r5.alloc (.cells #[.int .i64 (-1), .int .i64 50001] 3)).cell 3
          have eAd := (r5d.alloc (.cells #[.int .i64 (-1), .int .i64 50001] 3)).cell 3
          go_region_law (first | (go_simp; go_at_call 49; refine (among5 p _ w4.heap.size 2 [-1, 50001] w4.drew rfl rfl hcd (by omega) (by decide) (by decide) (i64_lit (by decide))).mono ?_; rintro e w6 ⟨y9, rfl, hy9, hc6, hg6⟩; replace hy9 := i64_lit (l := [-1, 50001]) (by decide) y9 hy9; have ho6 := hod.mark hg6 (fun z z' hz hz' => (by cases hz; have := hbd z' hz'; omega)); have r46 := r4d.mark hg6 (fun z hz => (by cases hz; omega)); have r56 := r5d.mark hg6 (fun z hz => (by cases hz; omega)); have HG6 := Lib.hid (grown_trans HGd.out hg6); have e34 := r56.cell 3; have g0 := own_at ho6 hy0 rfl; have f0 := (own_put ho6 0 y9 hy9).1))
          all_goals
            clear g0 f0
            have HP := own_put ho6 0 y9 hy9
            have r47 := r46.mark HP.2.2 (row_ne ho6.1 r46 (by decide))
            have r57 := r56.mark HP.2.2 (row_ne ho6.1 r56 (by decide))
            have hc7 := hc6.mark HP.2.2 (fun z hz => by cases hz; omega)
            have HG7 := Lib.hid (grown_far HG6.out HP.2.2 (fun z hz => by cases hz; omega))
            have ho7 := HP.2.1
            clear HP ho6 r46 r56 hc6 HG6 e34
            obtain ⟨zs, hzs⟩ : ∃ zs, ys.set 0 y9 = zs := ⟨_, rfl⟩
            have hzl : ys.length = zs.length := by rw [← hzs, List.length_set]
            rw [hzs, hzl] at ho7
            rw [hzl] at r57 ⊢
            have hz9 : zs.length ≤ 9 := by omega
            clear hzs hzl
            have u0 := r57.cell 0
            have g0 := r57.frozen 0
            have v0 := r47.cell 0
            have f0 := r47.frozen 0
            have u1 := r57.cell 1
            have g1 := r57.frozen 1
            have v1 := r47.cell 1
            have f1 := r47.frozen 1
            have u2 := r57.cell 2
            have g2 := r57.frozen 2
            have v2 := r47.cell 2
            have f2 := r47.frozen 2
            have u3 := r57.cell 3
            have g3 := r57.frozen 3
            have v3 := r47.cell 3
            have f3 := r47.frozen 3
            have F := Lib.hid (fin7 (a := .int .i64 y0) (b := .int .i64 y1) (c := .int .i64 y2) (d := .slice (some ⟨g, 0, none⟩) zs.length c) ho7 (row_ne' ho7.1 r47 (by decide)) hc7 hpw HG7.out (Nat.le_refl _))
            go_wp2
            refine bodyPost_ret (v := bathV y0 y1 y2 (.slice (some ⟨g, 0, none⟩) zs.length c)) (by first | (simp [results, Try.results35, go_sem, v0, v1, v2, v3]; done) | simp [results, Try.results35, go_sem, *]) rfl ⟨y0, y1, y2, (some ⟨g, 0, none⟩), c, zs, rfl, ⟨by first | omega | (simp; omega), by assumption, by assumption, by assumption⟩, F.out.1, F.out.2.1.more (by omega), F.out.2.2⟩
        · have hyi : ¬ (0 : Int) < (ys.length : Int) := by omega
          have u0 := r5.cell 0
          have g0 := r5.frozen 0
          have v0 := r4.cell 0
          have f0 := r4.frozen 0
          have u1 := r5.cell 1
          have g1 := r5.frozen 1
          have v1 := r4.cell 1
          have f1 := r4.frozen 1
          have u2 := r5.cell 2
          have g2 := r5.frozen 2
          have v2 := r4.cell 2
          have f2 := r4.frozen 2
          have u3 := r5.cell 3
          have g3 := r5.frozen 3
          have v3 := r4.cell 3
          have f3 := r4.frozen 3
          have F := Lib.hid (fin7 (a := .int .i64 y0) (b := .int .i64 y1) (c := .int .i64 y2) (d := .slice A ys.length c) ho4 (row_ne' ho4.1 r4 (by decide)) hc4 hpw HG4.out (Nat.le_refl _))
          go_wp2
          refine bodyPost_ret (v := bathV y0 y1 y2 (.slice A ys.length c)) (by first | (simp [results, Try.results35, go_sem, v0, v1, v2, v3]; done) | simp [results, Try.results35, go_sem, *]) rfl ⟨y0, y1, y2, A, c, ys, rfl, ⟨by first | omega | (simp; omega), by assumption, by assumption, by assumption⟩, F.out.1, F.out.2.1.more (by omega), F.out.2.2⟩
      have hx0' : (x == 0) = false := by simpa using hx0
      have hx1' : (x == 1) = false := by simpa using hx1
      have hx2' : (x == 2) = false := by simpa using hx2
      have hx3' : (x == 3) = false := by simpa using hx3
      have hx4' : (x == 4) = false := by simpa using hx4
      clear hx0 hx1 hx2 hx3 hx4
      have u0 := r5.cell 0
      have g0 := r5.frozen 0
      have v0 := r4.cell 0
      have f0 := r4.frozen 0
      have u1 := r5.cell 1
      have g1 := r5.frozen 1
      have v1 := r4.cell 1
      have f1 := r4.frozen 1
      have u2 := r5.cell 2
      have g2 := r5.frozen 2
      have v2 := r4.cell 2
      have f2 := r4.frozen 2
      have u3 := r5.cell 3
      have g3 := r5.frozen 3
      have v3 := r4.cell 3
      have f3 := r4.frozen 3
      have F := Lib.hid (fin7 (a := .int .i64 y0) (b := .int .i64 y1) (c := .int .i64 y2) (d := .slice A ys.length c) ho4 (row_ne' ho4.1 r4 (by decide)) hc4 hpw HG4.out (Nat.le_refl _))
      go_wp2
      refine bodyPost_ret (v := bathV y0 y1 y2 (.slice A ys.length c)) (by first | (simp [results, Try.results35, go_sem, v0, v1, v2, v3]; done) | simp [results, Try.results35, go_sem, *]) rfl ⟨y0, y1, y2, A, c, ys, rfl, ⟨by first | omega | (simp; omega), by assumption, by assumption, by assumption⟩, F.out.1, F.out.2.1.more (by omega), F.out.2.2⟩
end Go.Proofs.Ytjlidgeeehlkcaa
