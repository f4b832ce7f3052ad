/- The walk of the model's HalfDrop. No condition. -/
import Derived.Test.YtimindgefceibaaTileSpec
import Derived.Test.YtimindgefceibaaDropI
import Derived.Test.YtimindgefceibaaPart
import Derived.Deep.DeepCutAuto
import Derived.Deep.CutRange
namespace Go.Proofs.Ytimindgefceibaa
open Go.RowKit

set_option maxRecDepth 100000 in
set_option maxHeartbeats 4000000 in
theorem specHalfDrop_any (W H : Int) (A : Option Addr) (n c B : Nat) (xs : List Int) (w : World) (hR : Rd w B A n c xs) (hB : B ≤ w.heap.size) :
    Calls Try.prog 19 #[chartV W H (.slice A n c)] w (OutChart w (orZero (drpAll W H xs) (2 * W)) (orZero (drpAll W H xs) H) (drpX W H xs) (drpAll W H xs)) := by
  have hb0 := Lib.hid (((Below.refl w.heap.size w).alloc (Nat.le_refl _) (.cells #[.int .i64 W, .int .i64 H, .slice A n c] 26)).alloc (by simp) (.cells #[.int .i64 0, .int .i64 0, .slice none 0 0] 26))
  have h' := Lib.hid ((hR.alloc hB (.cells #[.int .i64 W, .int .i64 H, .slice A n c] 26)).alloc (by simp; omega) (.cells #[.int .i64 0, .int .i64 0, .slice none 0 0] 26))
  have r0 := (Blk.new (w.alloc (.cells #[.int .i64 W, .int .i64 H, .slice A n c] 26)) #[.int .i64 0, .int .i64 0, .slice none 0 0] 26)
  have x0 := (Blk.new w #[.int .i64 W, .int .i64 H, .slice A n c] 26).alloc (.cells #[.int .i64 0, .int .i64 0, .slice none 0 0] 26)
  by_cases h : drpOk W H xs = true
  · obtain ⟨hg, hev⟩ := drp_yes h
    have hall : drpAll W H xs = isSideB (2 * W) := by unfold drpAll; rw [h]; simp
    have hX : drpX W H xs = if isSideB (2 * W) = true then dropL W.toNat H.toNat xs else [] := by unfold drpX; rw [hall]
    obtain ⟨ok, hok⟩ : ∃ ok, Hid (drpAll W H xs = ok) := ⟨_, rfl⟩
    obtain ⟨ys, hys⟩ : ∃ ys, Hid (drpX W H xs = ys) := ⟨_, rfl⟩
    have HALL := Lib.hid (hall.symm.trans hok.out)
    have HX := Lib.hid (hX.symm.trans hys.out)
    rw [hok.out, hys.out]
    clear hX hall h hok hys
    obtain ⟨m, k, rfl, rfl, m1, m8, k1, k8, hl, h64, hl1, hcol⟩ := good_nat hg
    simp only [Int.toNat_natCast] at HX
    obtain rfl := hR.len
    obtain ⟨b, off, rfl, _, _⟩ := hR.cells (by omega)
    clear hR
    have hk2 : k % 2 = 0 := by simpa [evenB] using hev
    obtain ⟨hh, hk⟩ : ∃ hh, k = 2 * hh := ⟨k / 2, by omega⟩
    have hh1 : 1 ≤ hh := by omega
    have hh4 : hh ≤ 4 := by omega
    have HK := Lib.hid hk
    have hrem : Int.tmod (k : Int) 2 = 0 := by rw [rem2m, hk2]; rfl
    have hquo : Int.tdiv (k : Int) 2 = (hh : Int) := by rw [Int.tdiv_eq_ediv_of_nonneg (by omega)]; omega
    clear hev hk2 hk
    obtain ⟨M, hM⟩ : ∃ M, M = 2 * m := ⟨_, rfl⟩
    have hM64 : M ≤ 16 := by omega
    have hwM : IntKind.i64.wrap (2 * (m : Int)) = (M : Int) := by rw [IntWalk.i64_in _ (by omega)]; omega
    have hM1 : 1 ≤ M := by omega
    have hK1 : 1 ≤ k := by omega
    have hKs : isSideB (k : Int) = true := by unfold isSideB; rw [decide_eq_true_eq]; omega
    have HM := Lib.hid hM
    rw [show 2 * (m : Int) = (M : Int) by omega] at HALL HX ⊢
    rw [show isSideB (M : Int) = (isSideB (M : Int) && isSideB (k : Int)) by rw [hKs, Bool.and_true]] at HALL HX
    clear hM
    go_enter Try.func19, Try.ntmps19
    go_wp2_with fail
    refine (l2Good_any m k _ _ c B xs _ h'.out (by simp; omega)).mono ?_
    rintro e w1 ⟨rfl, hb⟩
    have r1 := (r0.all hb).at_ (q := w.heap.size + 1) (by simp)
    have x1 := x0.all hb
    have R1 := h'.out.all hb (by simp; omega)
    have HB := Lib.hid (hb0.out.trans (hb.mono (by simp; omega)))
    have hsz := r1.lt
    have e0 := x1.cell 0
    have e1 := x1.cell 1
    have e2 := x1.cell 2
    clear hb r0 x0 h' hb0
    rw [hg]
    go_wp2_with fail
    refine (show Calls Try.prog 42 #[.int .i64 M, .int .i64 k] _ _ from l6Blank_any M k _).mono ?_
    rintro e w2 ⟨A2, c2, rfl, own2, hb2⟩
    have r2 := r1.all hb2
    have x2 := x1.all hb2
    have R2 := R1.all hb2 (by omega)
    have HB2 := Lib.hid (HB.out.trans (hb2.mono (by omega)))
    have hz2 : w1.heap.size ≤ w2.heap.size := hb2.size
    replace own2 := own2.mono (show w.heap.size ≤ _ by omega)
    clear hb2 e0 e1 e2 r1 x1 R1 HB
    by_cases hMK : (isSideB (M : Int) && isSideB (k : Int)) = true
    rotate_left
    · have hno := not_false hMK
      have hok' : ok = false := HALL.out.symm.trans hno
      have hys' : ys = [] := by rw [← HX.out, hno]; rfl
      subst hok'
      subst hys'
      rw [hno]
      have g0 := r2.cell 0
      have g1 := r2.cell 1
      have g2 := r2.cell 2
      have z0 := r2.frozen 0
      have z1 := r2.frozen 1
      have z2 := r2.frozen 2
      have hzr := r2.lt
      clear own2
      go_wp2_with fail
      have F := fin3 (p := w.heap.size + 1) (a := .int .i64 0) (b := .int .i64 0) (c := .slice none 0 0) (Own.nil w2 w.heap.size) (by simp [Value.ownBlock]) HB2.out (by omega)
      exact bodyPost_ret (v := .tuple #[chartV 0 0 (.slice none 0 0), .bool false]) (by simp [results, Try.results19, go_sem, g0, g1, g2, hzr]) rfl ⟨none, 0, rfl, F.1.alloc _, F.2.alloc (by simp [World.setCell]; omega) _⟩
    · have hok' : ok = true := HALL.out.symm.trans hMK
      have hM8 : M ≤ 8 := by have := isSideB_yes (show isSideB (M : Int) = true by simp at hMK; exact hMK.1); omega
      have hK8 : k ≤ 8 := by have := isSideB_yes (show isSideB (k : Int) = true by simp at hMK; exact hMK.2); omega
      rw [if_pos hMK] at own2 ⊢
      rw [hMK]
      subst hok'
      have HYS := Lib.hid (show ys = _ from (HX.out.symm.trans (if_pos hMK)))
      have hrl : (List.replicate (M * k) (0 : Int)).length = M * k := List.length_replicate
      have hMK1 : 1 * 1 ≤ M * k := Nat.mul_le_mul hM1 hK1
      have hMK64 : M * k ≤ 64 := Nat.mul_le_mul hM8 hK8
      have hmk64 : m * k ≤ 64 := Nat.mul_le_mul m8 k8
      have hmh64 : m * hh ≤ 64 := Nat.le_trans (Nat.mul_le_mul m8 hh4) (by omega)
      have hplA := Lib.hid (show (partL m xs hh 0 hh m).length = m * hh by rw [partL_len, Nat.mul_comm])
      have hplB := Lib.hid (show (partL m xs 0 0 hh m).length = m * hh by rw [partL_len, Nat.mul_comm])
      obtain ⟨g2, rfl, _, _⟩ := own2.some_ (by rw [hrl]; omega)
      obtain ⟨z0, hz0⟩ : ∃ z0, List.replicate (M * k) (0 : Int) = z0 := ⟨_, rfl⟩
      have hzl0 := Lib.hid (show z0.length = M * k by rw [← hz0]; exact hrl)
      rw [hz0] at own2 ⊢
      clear hz0 hrl hMK hKs
      simp only [orZero, if_true]
      have hz0l : 1 ≤ z0.length := by rw [hzl0.out]; omega
      have ex20 := x2.cell 0
      have ex21 := x2.cell 1
      have ex22 := x2.cell 2
      have hxl2 := x2.lt
      go_wp2_with fail
      clear ex20 ex21 ex22
      have y3 := Blk.new w2 #[.int .i64 (M : Int), .int .i64 (k : Int), .slice (some ⟨g2, 0, none⟩) z0.length c2] 26
      have r3 := r2.alloc (.cells #[.int .i64 (M : Int), .int .i64 (k : Int), .slice (some ⟨g2, 0, none⟩) z0.length c2] 26)
      have x3 := x2.alloc (.cells #[.int .i64 (M : Int), .int .i64 (k : Int), .slice (some ⟨g2, 0, none⟩) z0.length c2] 26)
      have own3 := own2.alloc (.cells #[.int .i64 (M : Int), .int .i64 (k : Int), .slice (some ⟨g2, 0, none⟩) z0.length c2] 26)
      have R3 := R2.alloc (by omega) (.cells #[.int .i64 (M : Int), .int .i64 (k : Int), .slice (some ⟨g2, 0, none⟩) z0.length c2] 26)
      have HB3 := Lib.hid (HB2.out.alloc (by omega) (.cells #[.int .i64 (M : Int), .int .i64 (k : Int), .slice (some ⟨g2, 0, none⟩) z0.length c2] 26))
      have hzz3 := HB3.out.size
      have hyx : w.heap.size ≠ w2.heap.size := by omega
      have hyr : w.heap.size + 1 ≠ w2.heap.size := by omega
      clear r2 x2 own2 R2 HB2
      obtain ⟨w3, hw3⟩ : ∃ w3, w3 = w2.alloc (.cells #[.int .i64 (M : Int), .int .i64 (k : Int), .slice (some ⟨g2, 0, none⟩) z0.length c2] 26) := ⟨_, rfl⟩
      rw [← hw3] at y3 x3 r3 R3 own3 HB3 hzz3 ⊢
      clear hw3
      refine (l2Put_any M k m k g2 0 c2 w3.heap.size b off c B 0 0 z0 xs w3 own3.rd R3 (Nat.le_refl _) (Nat.le_trans hB hzz3) hM8 hK8 m1 hzl0 hl hMK64 hmk64 hz0l (by omega) (by rw [HM.out]; omega)).mono ?_
      rintro e w4 ⟨A4, c4, rfl, own4, hb4⟩
      have y4 := y3.all hb4
      have x4 := x3.all hb4
      have r4 := r3.all hb4
      have R4 := R3.all hb4 (Nat.le_trans hB hzz3)
      have HB4 := Lib.hid (HB3.out.trans (hb4.mono hzz3))
      replace own4 := own4.mono hzz3
      have hzz4 : w.heap.size ≤ w4.heap.size := HB4.out.size
      obtain ⟨g4, rfl, _, _⟩ := own4.some_ (by rw [putL_len]; have : 1 * 1 ≤ k * M := Nat.mul_le_mul hK1 hM1; omega)
      obtain ⟨p1, hp1⟩ : ∃ p1, Hid (p1 = putL M k m k z0 xs 0 0) := ⟨_, rfl⟩
      rw [← hp1.out] at own4 ⊢
      have hlp1 := Lib.hid (show p1.length = M * k by rw [hp1.out, putL_len, Nat.mul_comm])
      have y40 := y4.cell 0
      have y41 := y4.cell 1
      have y42 := y4.cell 2
      have z40 := y4.frozen 0
      have z41 := y4.frozen 1
      have z42 := y4.frozen 2
      have hyl4 := y4.lt
      clear hb4 y3 x3 r3 R3 own3 HB3
      go_wp2_with fail
      clear y40 y41 y42 z40 z41 z42
      have hne4 := row_ne' own4.1 y4 (by decide)
      have own5 := ((own4.far (a := ⟨w2.heap.size, 0, none⟩) hne4 (.int .i64 (M : Int))).far (a := ⟨w2.heap.size, 1, none⟩) hne4 (.int .i64 (k : Int))).far (a := ⟨w2.heap.size, 2, none⟩) hne4 (.slice (some ⟨g4, 0, none⟩) p1.length c4)
      have y5 := y4.put3 (a' := .int .i64 (M : Int)) (b' := .int .i64 (k : Int)) (c' := .slice (some ⟨g4, 0, none⟩) p1.length c4)
      have x5 := x4.far3 (a' := .int .i64 (M : Int)) (b' := .int .i64 (k : Int)) (c' := .slice (some ⟨g4, 0, none⟩) p1.length c4) hyx
      have r5 := r4.far3 (a' := .int .i64 (M : Int)) (b' := .int .i64 (k : Int)) (c' := .slice (some ⟨g4, 0, none⟩) p1.length c4) hyr
      have R5 := R4.keep (w' := (((w4.setCell ⟨w2.heap.size, 0, none⟩ (.int .i64 (M : Int))).setCell ⟨w2.heap.size, 1, none⟩ (.int .i64 (k : Int))).setCell ⟨w2.heap.size, 2, none⟩ (.slice (some ⟨g4, 0, none⟩) p1.length c4))) (fun bb oo hbb => by rw [World.cell?_setCell_far _ _ _ _ (by simp; omega), World.cell?_setCell_far _ _ _ _ (by simp; omega), World.cell?_setCell_far _ _ _ _ (by simp; omega)])
      have HB5 := Lib.hid (((HB4.out.setCell (p := ⟨w2.heap.size, 0, none⟩) (by simp; omega) (.int .i64 (M : Int))).setCell (p := ⟨w2.heap.size, 1, none⟩) (by simp; omega) (.int .i64 (k : Int))).setCell (p := ⟨w2.heap.size, 2, none⟩) (by simp; omega) (.slice (some ⟨g4, 0, none⟩) p1.length c4))
      obtain ⟨w5, hw5⟩ : ∃ w5, w5 = (((w4.setCell ⟨w2.heap.size, 0, none⟩ (.int .i64 (M : Int))).setCell ⟨w2.heap.size, 1, none⟩ (.int .i64 (k : Int))).setCell ⟨w2.heap.size, 2, none⟩ (.slice (some ⟨g4, 0, none⟩) p1.length c4)) := ⟨_, rfl⟩
      rw [← hw5] at own5 y5 x5 r5 R5 HB5 ⊢
      have hzz5 : w.heap.size ≤ w5.heap.size := HB5.out.size
      clear hw5 y4 x4 r4 R4 HB4 own4 hne4
      have y50 := y5.cell 0
      have x50 := x5.cell 0
      have y51 := y5.cell 1
      have x51 := x5.cell 1
      have y52 := y5.cell 2
      have x52 := x5.cell 2
      have hyl5 := y5.lt
      have hxl5 := x5.lt
      have Rd5 := R5.drew
      have hBd5 : B ≤ w5.drew.heap.size := Nat.le_trans hB hzz5
      go_wp2
      go_cut [44] from 35 to 44 (fun _ wx => ∃ (gn cn : Nat) (pn : List Int), Hid (pn = putL M k m hh p1 (partL m xs hh 0 hh m) 0 m) ∧ Own wx w.heap.size (.slice (some ⟨gn, 0, none⟩) pn.length cn) pn ∧ Blk wx w2.heap.size 26 #[.int .i64 (M : Int), .int .i64 (k : Int), .slice (some ⟨gn, 0, none⟩) pn.length cn] ∧ Blk wx w.heap.size 26 #[.int .i64 (m : Int), .int .i64 (k : Int), .slice (some ⟨b, off, none⟩) xs.length c] ∧ Blk wx (w.heap.size + 1) 26 #[.int .i64 0, .int .i64 0, .slice none 0 0] ∧ Rd wx B (some ⟨b, off, none⟩) xs.length c xs ∧ Hid (Below w.heap.size w wx))
      case first =>
        go_region_law (first | (go_simp; go_at_call 62; refine (l2Part_any m k b off c B hh 0 hh m xs _ Rd5 hBd5 m8 k8 hl hmk64 (by have := HK.out; omega) (by omega)).mono ?_; rintro e w6 ⟨A6, c6, rfl, op6, hb6⟩; (try replace hb6 := below_drew' hb6); have y6 := y5.all hb6; have x6 := x5.all hb6; have r6 := r5.all hb6; have R6 := R5.all hb6 (Nat.le_trans hB hzz5); have HB6 := Lib.hid (HB5.out.trans (hb6.mono hzz5)); have own6 := own5.all hb6; have hzz6 : w.heap.size ≤ w6.heap.size := HB6.out.size; have y60 := y6.cell 0; have y61 := y6.cell 1; have y62 := y6.cell 2; have x60 := x6.cell 0; have x61 := x6.cell 1; have x62 := x6.cell 2; obtain ⟨gp6, egp6, _, _⟩ := op6.some_ (by rw [partL_len]; exact Nat.mul_le_mul hh1 m1); subst egp6; clear hb6) | (go_simp; go_at_call 43; refine (l2Put_any M k m hh g4 0 c4 w6.heap.size gp6 0 c6 w6.heap.size 0 m p1 (partL m xs hh 0 hh m) w6 own6.rd op6.rd (Nat.le_refl _) (Nat.le_refl _) hM8 hK8 m1 hlp1 hplA hMK64 hmh64 (by rw [hlp1.out]; omega) (by have := HK.out; omega) (by have := HM.out; omega)).mono ?_; rintro e w7 ⟨A7, c7, rfl, own7, hb7⟩; have y7 := y6.all hb7; have x7 := x6.all hb7; have r7 := r6.all hb7; have R7 := R6.all hb7 (Nat.le_trans hB hzz6); have HB7 := Lib.hid (HB6.out.trans (hb7.mono hzz6)); replace own7 := own7.mono hzz6; have hzz7 : w.heap.size ≤ w7.heap.size := HB7.out.size; obtain ⟨g7, eg7, _, _⟩ := own7.some_ (by rw [putL_len]; have : 1 * 1 ≤ k * M := Nat.mul_le_mul hK1 hM1; omega); subst eg7; have y70 := y7.cell 0; have y71 := y7.cell 1; have y72 := y7.cell 2; have z70 := y7.frozen 0; have z71 := y7.frozen 1; have z72 := y7.frozen 2; have hyl7 := y7.lt; obtain ⟨q7, hq7⟩ : ∃ q, Hid (q = putL M k m hh p1 (partL m xs hh 0 hh m) 0 m) := ⟨_, rfl⟩; rw [← hq7.out] at own7 ⊢; clear hb7))
        all_goals
          have hne7 := row_ne' own7.1 y7 (by decide)
          have own8 := ((own7.far (a := ⟨w2.heap.size, 0, none⟩) hne7 (.int .i64 (M : Int))).far (a := ⟨w2.heap.size, 1, none⟩) hne7 (.int .i64 (k : Int))).far (a := ⟨w2.heap.size, 2, none⟩) hne7 (.slice (some ⟨g7, 0, none⟩) q7.length c7)
          have y8 := y7.put3 (a' := .int .i64 (M : Int)) (b' := .int .i64 (k : Int)) (c' := .slice (some ⟨g7, 0, none⟩) q7.length c7)
          have x8 := x7.far3 (a' := .int .i64 (M : Int)) (b' := .int .i64 (k : Int)) (c' := .slice (some ⟨g7, 0, none⟩) q7.length c7) hyx
          have r8 := r7.far3 (a' := .int .i64 (M : Int)) (b' := .int .i64 (k : Int)) (c' := .slice (some ⟨g7, 0, none⟩) q7.length c7) hyr
          have R8 := R7.keep (w' := (((w7.setCell ⟨w2.heap.size, 0, none⟩ (.int .i64 (M : Int))).setCell ⟨w2.heap.size, 1, none⟩ (.int .i64 (k : Int))).setCell ⟨w2.heap.size, 2, none⟩ (.slice (some ⟨g7, 0, none⟩) q7.length c7))) (fun bb oo hbb => by rw [World.cell?_setCell_far _ _ _ _ (by simp; omega), World.cell?_setCell_far _ _ _ _ (by simp; omega), World.cell?_setCell_far _ _ _ _ (by simp; omega)])
          have HB8 := Lib.hid (((HB7.out.setCell (p := ⟨w2.heap.size, 0, none⟩) (by simp; omega) (.int .i64 (M : Int))).setCell (p := ⟨w2.heap.size, 1, none⟩) (by simp; omega) (.int .i64 (k : Int))).setCell (p := ⟨w2.heap.size, 2, none⟩) (by simp; omega) (.slice (some ⟨g7, 0, none⟩) q7.length c7))
          go_wp2_with fail
          go_meet
          exact ⟨g7, c7, q7, hq7, own8, y8, x8, r8, R8, HB8⟩
      case rest =>
       obtain ⟨g7, c7, p2, hp2, own8, y8, x8, r8, R8, HB8⟩ := hcut
       obtain ⟨w8, hw8⟩ : ∃ w8, w8 = wc := ⟨_, rfl⟩
       subst hw8
       clear y5 x5 r5 R5 HB5 own5 Rd5 hBd5 y50 y51 y52 x50 x51 x52
       have hlp2 := Lib.hid (show p2.length = M * k by rw [hp2.out, putL_len, Nat.mul_comm])
       have hzz8 : w.heap.size ≤ w8.heap.size := HB8.out.size
       have y80 := y8.cell 0
       have x80 := x8.cell 0
       have y81 := y8.cell 1
       have x81 := x8.cell 1
       have y82 := y8.cell 2
       have x82 := x8.cell 2
       have hyl8 := y8.lt
       have hxl8 := x8.lt
       have Rd8 := R8.drew
       have hBd8 : B ≤ w8.drew.heap.size := Nat.le_trans hB hzz8
       go_wp2
       go_cut [54] from 45 to 54 (fun _ wx => ∃ (gn cn : Nat) (pn : List Int), Hid (pn = putL M k m hh p2 (partL m xs 0 0 hh m) hh m) ∧ Own wx w.heap.size (.slice (some ⟨gn, 0, none⟩) pn.length cn) pn ∧ Blk wx w2.heap.size 26 #[.int .i64 (M : Int), .int .i64 (k : Int), .slice (some ⟨gn, 0, none⟩) pn.length cn] ∧ Blk wx w.heap.size 26 #[.int .i64 (m : Int), .int .i64 (k : Int), .slice (some ⟨b, off, none⟩) xs.length c] ∧ Blk wx (w.heap.size + 1) 26 #[.int .i64 0, .int .i64 0, .slice none 0 0] ∧ Rd wx B (some ⟨b, off, none⟩) xs.length c xs ∧ Hid (Below w.heap.size w wx))
       case first =>
         go_region_law (first | (go_simp; go_at_call 62; refine (l2Part_any m k b off c B 0 0 hh m xs _ Rd8 hBd8 m8 k8 hl hmk64 (by have := HK.out; omega) (by omega)).mono ?_; rintro e w9 ⟨A9, c9, rfl, op9, hb9⟩; (try replace hb9 := below_drew' hb9); have y9 := y8.all hb9; have x9 := x8.all hb9; have r9 := r8.all hb9; have R9 := R8.all hb9 (Nat.le_trans hB hzz8); have HB9 := Lib.hid (HB8.out.trans (hb9.mono hzz8)); have own9 := own8.all hb9; have hzz9 : w.heap.size ≤ w9.heap.size := HB9.out.size; have y90 := y9.cell 0; have y91 := y9.cell 1; have y92 := y9.cell 2; have x90 := x9.cell 0; have x91 := x9.cell 1; have x92 := x9.cell 2; obtain ⟨gp9, egp9, _, _⟩ := op9.some_ (by rw [partL_len]; exact Nat.mul_le_mul hh1 m1); subst egp9; clear hb9) | (go_simp; go_at_call 43; refine (l2Put_any M k m hh g7 0 c7 w9.heap.size gp9 0 c9 w9.heap.size hh m p2 (partL m xs 0 0 hh m) w9 own9.rd op9.rd (Nat.le_refl _) (Nat.le_refl _) hM8 hK8 m1 hlp2 hplB hMK64 hmh64 (by rw [hlp2.out]; omega) (by have := HK.out; omega) (by have := HM.out; omega)).mono ?_; rintro e w10 ⟨A10, c10, rfl, own10, hb10⟩; have y10 := y9.all hb10; have x10 := x9.all hb10; have r10 := r9.all hb10; have R10 := R9.all hb10 (Nat.le_trans hB hzz9); have HB10 := Lib.hid (HB9.out.trans (hb10.mono hzz9)); replace own10 := own10.mono hzz9; have hzz10 : w.heap.size ≤ w10.heap.size := HB10.out.size; obtain ⟨g10, eg10, _, _⟩ := own10.some_ (by rw [putL_len]; have : 1 * 1 ≤ k * M := Nat.mul_le_mul hK1 hM1; omega); subst eg10; have y100 := y10.cell 0; have y101 := y10.cell 1; have y102 := y10.cell 2; have z100 := y10.frozen 0; have z101 := y10.frozen 1; have z102 := y10.frozen 2; have hyl10 := y10.lt; obtain ⟨q10, hq10⟩ : ∃ q, Hid (q = putL M k m hh p2 (partL m xs 0 0 hh m) hh m) := ⟨_, rfl⟩; rw [← hq10.out] at own10 ⊢; clear hb10))
         all_goals
           have hne10 := row_ne' own10.1 y10 (by decide)
           have own11 := ((own10.far (a := ⟨w2.heap.size, 0, none⟩) hne10 (.int .i64 (M : Int))).far (a := ⟨w2.heap.size, 1, none⟩) hne10 (.int .i64 (k : Int))).far (a := ⟨w2.heap.size, 2, none⟩) hne10 (.slice (some ⟨g10, 0, none⟩) q10.length c10)
           have y11 := y10.put3 (a' := .int .i64 (M : Int)) (b' := .int .i64 (k : Int)) (c' := .slice (some ⟨g10, 0, none⟩) q10.length c10)
           have x11 := x10.far3 (a' := .int .i64 (M : Int)) (b' := .int .i64 (k : Int)) (c' := .slice (some ⟨g10, 0, none⟩) q10.length c10) hyx
           have r11 := r10.far3 (a' := .int .i64 (M : Int)) (b' := .int .i64 (k : Int)) (c' := .slice (some ⟨g10, 0, none⟩) q10.length c10) hyr
           have R11 := R10.keep (w' := (((w10.setCell ⟨w2.heap.size, 0, none⟩ (.int .i64 (M : Int))).setCell ⟨w2.heap.size, 1, none⟩ (.int .i64 (k : Int))).setCell ⟨w2.heap.size, 2, none⟩ (.slice (some ⟨g10, 0, none⟩) q10.length c10))) (fun bb oo hbb => by rw [World.cell?_setCell_far _ _ _ _ (by simp; omega), World.cell?_setCell_far _ _ _ _ (by simp; omega), World.cell?_setCell_far _ _ _ _ (by simp; omega)])
           have HB11 := Lib.hid (((HB10.out.setCell (p := ⟨w2.heap.size, 0, none⟩) (by simp; omega) (.int .i64 (M : Int))).setCell (p := ⟨w2.heap.size, 1, none⟩) (by simp; omega) (.int .i64 (k : Int))).setCell (p := ⟨w2.heap.size, 2, none⟩) (by simp; omega) (.slice (some ⟨g10, 0, none⟩) q10.length c10))
           go_wp2_with fail
           go_meet
           exact ⟨g10, c10, q10, hq10, own11, y11, x11, r11, R11, HB11⟩
       case rest =>
        obtain ⟨g10, c10, p3, hp3, own11, y11, x11, r11, R11, HB11⟩ := hcut
        obtain ⟨w11, hw11⟩ : ∃ w11, w11 = wc := ⟨_, rfl⟩
        subst hw11
        clear y8 x8 r8 R8 HB8 own8 Rd8 hBd8 y80 y81 y82 x80 x81 x82
        have hlp3 := Lib.hid (show p3.length = M * k by rw [hp3.out, putL_len, Nat.mul_comm])
        have hzz11 : w.heap.size ≤ w11.heap.size := HB11.out.size
        have hfin : p3 = ys := by
          rw [HYS.out, hp3.out, hp2.out, hp1.out, HM.out, HK.out]
          exact drop_put
        subst hfin
        have y110 := y11.cell 0
        have x110 := x11.cell 0
        have y111 := y11.cell 1
        have x111 := x11.cell 1
        have y112 := y11.cell 2
        have x112 := x11.cell 2
        have g0 := r11.cell 0
        have g1 := r11.cell 1
        have g2' := r11.cell 2
        have z0' := r11.frozen 0
        have z1' := r11.frozen 1
        have z2' := r11.frozen 2
        have hrl11 := r11.lt
        have F := fin3 (p := w.heap.size + 1) (a := .int .i64 (M : Int)) (b := .int .i64 (k : Int)) (c := .slice (some ⟨g10, 0, none⟩) p3.length c10) own11 (row_ne' own11.1 r11 (by decide)) HB11.out (by omega)
        go_wp2
        exact bodyPost_ret (v := .tuple #[chartV (M : Int) (k : Int) (.slice (some ⟨g10, 0, none⟩) p3.length c10), .bool true]) (by simp [results, Try.results19, go_sem, g0, g1, g2']) rfl ⟨_, _, by rfl, F.1, F.2⟩
  · have hno : drpAll W H xs = false := by unfold drpAll; rw [not_false h]; rfl
    have hX : drpX W H xs = [] := by unfold drpX; rw [hno]; rfl
    rw [hX, hno]
    rcases drp_no h with hg | ⟨hg, hev⟩
    · clear x0 h
      go_enter Try.func19, Try.ntmps19
      go_wp2_with fail
      refine (l2Good_any W H A n c B xs _ h'.out (by simp; omega)).mono ?_
      rintro e w1 ⟨rfl, hb⟩
      have r1 := (r0.all hb).at_ (q := w.heap.size + 1) (by simp)
      have HB := Lib.hid (hb0.out.trans (hb.mono (by simp; omega)))
      have g0 := r1.cell 0
      have g1 := r1.cell 1
      have g2 := r1.cell 2
      have z0 := r1.frozen 0
      have z1 := r1.frozen 1
      have z2 := r1.frozen 2
      clear hb r0
      rw [hg]
      go_wp2_with fail
      have F := fin3 (p := w.heap.size + 1) (a := .int .i64 0) (b := .int .i64 0) (c := .slice none 0 0) (Own.nil w1 w.heap.size) (by simp [Value.ownBlock]) HB.out (by omega)
      exact bodyPost_ret (v := .tuple #[chartV 0 0 (.slice none 0 0), .bool false]) (by simp [results, Try.results19, go_sem, g0, g1, g2]) rfl ⟨none, 0, rfl, F.1, F.2⟩
    · obtain ⟨m, k, rfl, rfl, m1, m8, k1, k8, hl, h64, hl1, hcol⟩ := good_nat hg
      have hk2 : k % 2 = 1 := by
        have : ¬ k % 2 = 0 := by simpa [evenB] using hev
        omega
      have hrem : Int.tmod (k : Int) 2 = 1 := by rw [rem2m, hk2]; rfl
      clear hev h hk2
      go_enter Try.func19, Try.ntmps19
      go_wp2_with fail
      refine (l2Good_any m k A n c B xs _ h'.out (by simp; omega)).mono ?_
      rintro e w1 ⟨rfl, hb⟩
      have r1 := (r0.all hb).at_ (q := w.heap.size + 1) (by simp)
      have x1 := x0.all hb
      have HB := Lib.hid (hb0.out.trans (hb.mono (by simp; omega)))
      have hsz := r1.lt
      have e1 := x1.cell 1
      have g0 := r1.cell 0
      have g1 := r1.cell 1
      have g2 := r1.cell 2
      have z0 := r1.frozen 0
      have z1 := r1.frozen 1
      have z2 := r1.frozen 2
      clear hb r0 x0
      rw [hg]
      go_wp2_with fail
      have F := fin3 (p := w.heap.size + 1) (a := .int .i64 0) (b := .int .i64 0) (c := .slice none 0 0) (Own.nil w1 w.heap.size) (by simp [Value.ownBlock]) HB.out (by omega)
      exact bodyPost_ret (v := .tuple #[chartV 0 0 (.slice none 0 0), .bool false]) (by simp [results, Try.results19, go_sem, g0, g1, g2]) rfl ⟨none, 0, rfl, F.1, F.2⟩
end Go.Proofs.Ytimindgefceibaa
