/- The draw of what is added to a bath. Condition: a code of at most 65536 bytes. -/
import Derived.Test.YtjlidgeeehlkcaaDraws7c
namespace Go.Proofs.Ytjlidgeeehlkcaa
open Go.RowKit

set_option maxRecDepth 100000 in
set_option maxHeartbeats 8000000 in
theorem drawAddStuff_any (A : Option Addr) (n c B : Nat) (w : World) (h : RdB w B A n c) (hB : B ≤ w.heap.size) (hn : n ≤ 65536) : Calls Try.prog 18 #[.slice A n c] w (GaveAdd w) := by
  go_enter Try.func18, Try.ntmps18
  have hc0 := cur_new7 h hB hn
  have r4 := (Blk.new w #[.int .i64 0, .int .i64 0, .int .i64 0, .slice none 0 0] 27).alloc (.cells #[.slice A n c, .int .i64 0, .int .u64 0] 56)
  have HB : Below w.heap.size w ((w.alloc (.cells #[.int .i64 0, .int .i64 0, .int .i64 0, .slice none 0 0] 27)).alloc (.cells #[.slice A n c, .int .i64 0, .int .u64 0] 56)) := ((Below.refl _ _).alloc (Nat.le_refl _) _).alloc (by simp) _
  have hlo : w.heap.size + 1 < ((w.alloc (.cells #[.int .i64 0, .int .i64 0, .int .i64 0, .slice none 0 0] 27)).alloc (.cells #[.slice A n c, .int .i64 0, .int .u64 0] 56)).heap.size := by simp
  clear h
  go_wp2_with fail
  refine (recipe_any (w.heap.size + 1) 0 _ hc0 (by omega)).mono ?_
  rintro e w1 ⟨A1, c1, xs, rfl, hxl, ho, hc1, hg1⟩
  have hbd := fun z hz => (ho.bd z hz).1
  replace r4 := r4.mark hg1 (fun z hz => by cases hz; omega)
  replace HB := HB.trans (grown_below hg1 (Nat.le_succ _) HB.size)
  have hz1 := hg1.size
  clear hg1 hc0
  go_wp2_with fail
  refine (bath_any (w.heap.size + 1) (0 + 1000) xs.length c1 A1 _ hc1 (by omega) hxl).mono ?_
  rintro e w2 ⟨L, TT, Y, A2, c2, ys, rfl, ⟨hyl, hL, hT, hY⟩, ho2, hc2, hg2⟩
  replace ho := ho.mark hg2 (fun z z' hz hz' => by cases hz; have := hbd z' hz'; omega)
  replace r4 := r4.mark hg2 (fun z hz => by cases hz; omega)
  replace HB := HB.trans (grown_below hg2 (Nat.le_succ _) HB.size)
  have hz2 := hg2.size
  clear hg2 hc1
  have hbd2 := fun z hz => (ho2.bd z hz).1
  have hlo2 := hz2
  have ob := (Below.refl w2.heap.size w2).alloc (Nat.le_refl _) (.cells #[.int .i64 L, .int .i64 TT, .int .i64 Y, .slice A2 ys.length c2] 27)
  have r5 := Blk.new w2 #[.int .i64 L, .int .i64 TT, .int .i64 Y, .slice A2 ys.length c2] 27
  replace ho := ho.all ob
  replace ho2 := ho2.all ob
  replace hc2 := hc2.all ob
  replace r4 := r4.all ob
  replace HB := HB.trans (ob.mono HB.size)
  clear ob
  go_wp2_with fail
  obtain ⟨P, hP⟩ : ∃ q, w2.heap.size = q := ⟨_, rfl⟩
  obtain ⟨w2b, hw2b⟩ : ∃ v, w2.alloc (.cells #[.int .i64 L, .int .i64 TT, .int .i64 Y, .slice A2 ys.length c2] 27) = v := ⟨_, rfl⟩
  have hPP : P + 1 = w2b.heap.size := by rw [← hw2b, ← hP]; simp
  rw [hP] at r5 hz2 ⊢
  rw [hw2b] at r5 ho ho2 hc2 r4 HB ⊢
  clear hw2b
  refine (of_lit (w.heap.size + 1) _ (P + 1) 3 [⟨#[97, 108, 117, 109]⟩, ⟨#[110, 111, 110, 101]⟩, ⟨#[]⟩] w2b hPP rfl hc2 (by omega) (by decide) (by decide) (by decide)).mono ?_
  rintro e w3 ⟨s0, rfl, hs0, hc3, hg3⟩
  have Hs0 : s0.size ≤ 20 := (show ∀ x ∈ ([⟨#[97, 108, 117, 109]⟩, ⟨#[110, 111, 110, 101]⟩, ⟨#[]⟩] : List ByteArray), x.size ≤ 20 by decide) s0 hs0
  clear hs0
  replace ho := ho.mark hg3 (fun z z' hz hz' => by cases hz; have := hbd z' hz'; omega)
  replace ho2 := ho2.mark hg3 (fun z z' hz hz' => by cases hz; have := hbd2 z' hz'; omega)
  replace r4 := r4.mark hg3 (fun z hz => by cases hz; omega)
  replace r5 := r5.mark hg3 (fun z hz => by cases hz; omega)
  replace HB := HB.trans (grown_below hg3 (Nat.le_succ _) HB.size)
  clear hg3 hc2
  by_cases hx0 : 0 < xs.length
  · have hxi : (0 : Int) < (xs.length : Int) := by omega
    go_wp2_with fail
    refine (one_any (w.heap.size + 1) _ 6 _ hc3 (by omega) (by omega) (by omega)).mono ?_
    rintro e w4 ⟨d, rfl, hc4, hg4⟩
    replace ho := ho.mark hg4 (fun z z' hz hz' => by cases hz; have := hbd z' hz'; omega)
    replace ho2 := ho2.mark hg4 (fun z z' hz hz' => by cases hz; have := hbd2 z' hz'; omega)
    replace r4 := r4.mark hg4 (fun z hz => by cases hz; omega)
    replace r5 := r5.mark hg4 (fun z hz => by cases hz; omega)
    replace HB := HB.trans (grown_below hg4 (Nat.le_succ _) HB.size)
    clear hg4 hc3
    cases d with
    | true =>
      go_wp2
      have hod := ho.drewN 1
      have ho2d := ho2.drewN 1
      have r4d := r4.all (low_drewN w4 1)
      have r5d := r5.all (low_drewN w4 1)
      have hcd := cur_drew hc4
      have HBd := belowD HB
      replace hod : OwnF dyePartF w4.drew _ _ _ := hod
      replace ho2d : Own w4.drew _ _ _ := ho2d
      replace r4d : Blk w4.drew _ _ _ := r4d
      replace r5d : Blk w4.drew _ _ _ := r5d
      have e0 := r5.cell 0
      have e1 := r5.cell 1
      have e2 := r5.cell 2
      have e3 := r5.cell 3
      go_region_law (first | (go_simp; go_at_call 39; refine (yarn7_any (w.heap.size + 1) _ w4.drew hcd (by omega)).mono ?_; rintro e w6 ⟨y9, rfl, hy9, hc6, hg6⟩; have ho6 := hod.mark hg6 (fun z z' hz hz' => (by cases hz; have := hbd z' hz'; omega)); have ho26 := ho2d.mark hg6 (fun z z' hz hz' => (by cases hz; have := hbd2 z' hz'; omega)); have r46 := r4d.mark hg6 (fun z hz => (by cases hz; omega)); have r56 := r5d.mark hg6 (fun z hz => (by cases hz; omega)); have HB6 := Lib.hid (HBd.trans (grown_below hg6 (Nat.le_succ _) HBd.size)); have x0 := r56.cell 0; have x1 := r56.cell 1; have x2 := r56.cell 2; have x3 := r56.cell 3; have v0 := r46.cell 0; have v1 := r46.cell 1; have v2 := r46.cell 2; have v3 := r46.cell 3; have f0 := r46.frozen 0; have f1 := r46.frozen 1; have f2 := r46.frozen 2; have f3 := r46.frozen 3))
      all_goals
        have F := Lib.hid (finB (a := .int .i64 L) (b := .int .i64 TT) (c := .int .i64 Y) (d := .slice A2 ys.length c2) ho6 ho26 HB6.out (Nat.le_refl _) (by omega) (by omega))
        go_wp2
        refine bodyPost_ret (v := .tuple #[.slice A1 xs.length c1, bathV L TT Y (.slice A2 ys.length c2), .string s0, .int .i64 y9]) (by first | (simp [results, Try.results18, go_sem, v0, v1, v2, v3]; done) | simp [results, Try.results18, go_sem, *]) rfl ⟨A1, c1, xs, L, TT, Y, A2, c2, ys, s0, y9, rfl, ⟨hxl, hyl, hL, hT, hY, by first | assumption | (unfold maxLen; omega), hy9⟩, F.out.1, F.out.2.1, F.out.2.2⟩
    | false =>
      go_wp2_with fail
      refine (pick_any (w.heap.size + 1) _ (xs.length : Int) _ hc4 (by omega) (by omega) (by omega)).mono ?_
      rintro e w5 ⟨x, rfl, ⟨x0, x1⟩, hc5, hg5⟩
      replace ho := ho.mark hg5 (fun z z' hz hz' => by cases hz; have := hbd z' hz'; omega)
      replace ho2 := ho2.mark hg5 (fun z z' hz hz' => by cases hz; have := hbd2 z' hz'; omega)
      replace r4 := r4.mark hg5 (fun z hz => by cases hz; omega)
      replace r5 := r5.mark hg5 (fun z hz => by cases hz; omega)
      replace HB := HB.trans (grown_below hg5 (Nat.le_succ _) HB.size)
      clear hg5 hc4
      obtain ⟨j, rfl⟩ := Int.eq_ofNat_of_zero_le x0
      have hj : j < xs.length := by omega
      have hji : (j : Int) < (xs.length : Int) := by omega
      clear x0 x1
      obtain ⟨b, off, a, rfl, hbB, ok, HX, hd0, hd1⟩ := DyePartR_at (F := dyePartF) rfl (fun _ => rfl) (fun _ => rfl) ho.rd hj
      have ok1 := ok.1
      go_wp2
      have hod := ho.drewN 1
      have ho2d := ho2.drewN 1
      have r4d := r4.all (low_drewN w5 1)
      have r5d := r5.all (low_drewN w5 1)
      have hcd := cur_drew hc5
      have HBd := belowD HB
      replace hod : OwnF dyePartF w5.drew _ _ _ := hod
      replace ho2d : Own w5.drew _ _ _ := ho2d
      replace r4d : Blk w5.drew _ _ _ := r4d
      replace r5d : Blk w5.drew _ _ _ := r5d
      have e0 := r5.cell 0
      have e1 := r5.cell 1
      have e2 := r5.cell 2
      have e3 := r5.cell 3
      go_region_law (first | (go_simp; go_at_call 39; refine (yarn7_any (w.heap.size + 1) _ w5.drew hcd (by omega)).mono ?_; rintro e w6 ⟨y9, rfl, hy9, hc6, hg6⟩; have ho6 := hod.mark hg6 (fun z z' hz hz' => (by cases hz; have := hbd z' hz'; omega)); have ho26 := ho2d.mark hg6 (fun z z' hz hz' => (by cases hz; have := hbd2 z' hz'; omega)); have r46 := r4d.mark hg6 (fun z hz => (by cases hz; omega)); have r56 := r5d.mark hg6 (fun z hz => (by cases hz; omega)); have HB6 := Lib.hid (HBd.trans (grown_below hg6 (Nat.le_succ _) HBd.size)); have x0 := r56.cell 0; have x1 := r56.cell 1; have x2 := r56.cell 2; have x3 := r56.cell 3; have v0 := r46.cell 0; have v1 := r46.cell 1; have v2 := r46.cell 2; have v3 := r46.cell 3; have f0 := r46.frozen 0; have f1 := r46.frozen 1; have f2 := r46.frozen 2; have f3 := r46.frozen 3))
      all_goals
        have F := Lib.hid (finB (a := .int .i64 L) (b := .int .i64 TT) (c := .int .i64 Y) (d := .slice A2 ys.length c2) ho6 ho26 HB6.out (Nat.le_refl _) (by omega) (by omega))
        go_wp2
        refine bodyPost_ret (v := .tuple #[.slice (some ⟨b, off, none⟩) xs.length c1, bathV L TT Y (.slice A2 ys.length c2), .string a.f0, .int .i64 y9]) (by first | (simp [results, Try.results18, go_sem, v0, v1, v2, v3]; done) | simp [results, Try.results18, go_sem, *]) rfl ⟨(some ⟨b, off, none⟩), c1, xs, L, TT, Y, A2, c2, ys, a.f0, y9, rfl, ⟨hxl, hyl, hL, hT, hY, by first | assumption | (unfold maxLen; omega), hy9⟩, F.out.1, F.out.2.1, F.out.2.2⟩
  · have hxi : ¬ (0 : Int) < (xs.length : Int) := by omega
    go_wp2
    have hod := ho.drewN 1
    have ho2d := ho2.drewN 1
    have r4d := r4.all (low_drewN w3 1)
    have r5d := r5.all (low_drewN w3 1)
    have hcd := cur_drew hc3
    have HBd := belowD HB
    replace hod : OwnF dyePartF w3.drew _ _ _ := hod
    replace ho2d : Own w3.drew _ _ _ := ho2d
    replace r4d : Blk w3.drew _ _ _ := r4d
    replace r5d : Blk w3.drew _ _ _ := r5d
    have e0 := r5.cell 0
    have e1 := r5.cell 1
    have e2 := r5.cell 2
    have e3 := r5.cell 3
    go_region_law (first | (go_simp; go_at_call 39; refine (yarn7_any (w.heap.size + 1) _ w3.drew hcd (by omega)).mono ?_; rintro e w6 ⟨y9, rfl, hy9, hc6, hg6⟩; have ho6 := hod.mark hg6 (fun z z' hz hz' => (by cases hz; have := hbd z' hz'; omega)); have ho26 := ho2d.mark hg6 (fun z z' hz hz' => (by cases hz; have := hbd2 z' hz'; omega)); have r46 := r4d.mark hg6 (fun z hz => (by cases hz; omega)); have r56 := r5d.mark hg6 (fun z hz => (by cases hz; omega)); have HB6 := Lib.hid (HBd.trans (grown_below hg6 (Nat.le_succ _) HBd.size)); have x0 := r56.cell 0; have x1 := r56.cell 1; have x2 := r56.cell 2; have x3 := r56.cell 3; have v0 := r46.cell 0; have v1 := r46.cell 1; have v2 := r46.cell 2; have v3 := r46.cell 3; have f0 := r46.frozen 0; have f1 := r46.frozen 1; have f2 := r46.frozen 2; have f3 := r46.frozen 3))
    all_goals
      have F := Lib.hid (finB (a := .int .i64 L) (b := .int .i64 TT) (c := .int .i64 Y) (d := .slice A2 ys.length c2) ho6 ho26 HB6.out (Nat.le_refl _) (by omega) (by omega))
      go_wp2
      refine bodyPost_ret (v := .tuple #[.slice A1 xs.length c1, bathV L TT Y (.slice A2 ys.length c2), .string s0, .int .i64 y9]) (by first | (simp [results, Try.results18, go_sem, v0, v1, v2, v3]; done) | simp [results, Try.results18, go_sem, *]) rfl ⟨A1, c1, xs, L, TT, Y, A2, c2, ys, s0, y9, rfl, ⟨hxl, hyl, hL, hT, hY, by first | assumption | (unfold maxLen; omega), hy9⟩, F.out.1, F.out.2.1, F.out.2.2⟩
end Go.Proofs.Ytjlidgeeehlkcaa
