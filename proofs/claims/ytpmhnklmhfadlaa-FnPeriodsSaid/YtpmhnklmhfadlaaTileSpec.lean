/- The walks of the model's l6Blank, l6Times, RepeatMotif. No condition. -/
import Derived.Test.YtpmhnklmhfadlaaRepImpl
import Derived.Test.YtpmhnklmhfadlaaPutSpec
import Derived.Test.YtpmhnklmhfadlaaMoved
namespace Go.Proofs.Ytpmhnklmhfadlaa
open Go.RowKit

theorem l6Times_any (n : Int) (w : World) : Calls Try.prog 91 #[.int .i64 n] w fun e w' => e = .returned (.bool (isSideB n)) ∧ w = w' := by
  go_enter Try.func91, Try.ntmps91
  go_wp2_with (go_at_call 87; (with_reducible refine (l1In_any _ _ _ _).mono ?_); rintro e w' ⟨rfl, rfl⟩)
  go_ret
  exact ⟨ret_bool (inB_side n), by first | rfl | trivial⟩
set_option maxRecDepth 100000 in
set_option maxHeartbeats 2000000 in
theorem l6Blank_any (M K : Nat) (w : World) :
    Calls Try.prog 92 #[.int .i64 M, .int .i64 K] w (OutChart w (orZero (isSideB (M : Int) && isSideB (K : Int)) M) (orZero (isSideB (M : Int) && isSideB (K : Int)) K) (if (isSideB (M : Int) && isSideB (K : Int)) = true then List.replicate (M * K) 0 else []) (isSideB (M : Int) && isSideB (K : Int))) := by
  obtain ⟨i0, hi, hz0, hz1, hz2⟩ := info_parts info_int
  have hb0 := Lib.hid ((Below.refl w.heap.size w).alloc (Nat.le_refl _) (.cells #[.int .i64 0, .int .i64 0, .slice none 0 0] 26))
  have r0 := Blk.new w #[.int .i64 0, .int .i64 0, .slice none 0 0] 26
  by_cases h : (isSideB (M : Int) && isSideB (K : Int)) = true
  · rw [if_pos h, h]
    have h1 : isSideB (M : Int) = true := by simp at h; exact h.1
    have h2 : isSideB (K : Int) = true := by simp at h; exact h.2
    have b1 := isSideB_yes h1
    have b2 := isSideB_yes h2
    obtain ⟨N, hN⟩ : ∃ N, N = M * K := ⟨_, rfl⟩
    have hN64 : N ≤ 64 := by rw [hN]; exact Nat.mul_le_mul (show M ≤ 8 by omega) (show K ≤ 8 by omega)
    have hw : IntKind.i64.wrap ((M : Int) * (K : Int)) = (N : Int) := by rw [← Int.natCast_mul, ← hN]; exact IntWalk.i64_in _ (by omega)
    rw [← hN]
    clear hN
    have g0 := r0.cell 0
    have g1 := r0.cell 1
    have g2 := r0.cell 2
    clear h
    go_enter Try.func92, Try.ntmps92
    go_wp2_with (first | (go_at_call 64; (with_reducible refine (l2Side_any _ _).mono ?_); rintro e w' ⟨rfl, rfl⟩) | (at_make; refine wpList_make_full _ rfl _ _ 24 rfl w.heap.size 3 i0 (.int .i64 0) 1 Try.underlying24 hi hz0 hz1 _ _ _ _ N rfl rfl rfl rfl (by rw [hz2]; omega) (by unfold maxLen; omega) (by simp) ?_))
    intro w1 hown0 hg0
    have r1 := r0.mark hg0 (fun k h => by cases h)
    have HO : Own w1 w.heap.size (.slice (some ⟨w.heap.size + 1, 0, none⟩) N N) (List.replicate N 0) := by
      refine ⟨?_, fun x hx => ?_⟩
      · have := hown0
        rw [toList_madeCells_one] at this
        rw [List.length_replicate, List.map_replicate]
        simpa using this
      · rw [List.mem_replicate] at hx
        rw [hx.2]; exact ⟨by omega, by omega⟩
    have HB := Lib.hid (hb0.out.grown hg0 (by simp) (fun k h => by cases h))
    have f0 := r1.cell 0
    have f1 := r1.cell 1
    have f2 := r1.cell 2
    have z0 := r1.frozen 0
    have z1 := r1.frozen 1
    have z2 := r1.frozen 2
    clear hown0 hg0 g0 g1 g2 r0
    go_wp2
    have F := fin3 (p := w.heap.size) (a := .int .i64 (M : Int)) (b := .int .i64 (K : Int)) (c := .slice (some ⟨w.heap.size + 1, 0, none⟩) N N) HO (by simp [Value.ownBlock]) HB.out (Nat.le_refl _)
    exact bodyPost_ret (v := .tuple #[chartV M K (.slice (some ⟨w.heap.size + 1, 0, none⟩) N N), .bool true]) (by simp [results, Try.results92, go_sem, f0, f1, f2]) rfl ⟨_, _, by rw [List.length_replicate]; rfl, by rw [List.length_replicate]; exact F.1, F.2⟩
  · rw [if_neg h, not_false h]
    have g0 := r0.cell 0
    have g1 := r0.cell 1
    have g2 := r0.cell 2
    have z0 := r0.frozen 0
    have z1 := r0.frozen 1
    have z2 := r0.frozen 2
    have hzr := r0.lt
    by_cases h1 : isSideB (M : Int) = true
    · have h2 : isSideB (K : Int) = false := by rw [h1] at h; simpa using h
      go_enter Try.func92, Try.ntmps92
      go_wp2_with (go_at_call 64; (with_reducible refine (l2Side_any _ _).mono ?_); rintro e w' ⟨rfl, rfl⟩)
      exact bodyPost_ret (v := .tuple #[chartV 0 0 (.slice none 0 0), .bool false]) (by simp [results, Try.results92, go_sem, g0, g1, g2]) rfl ⟨none, 0, rfl, Own.nil _ _, hb0.out⟩
    · have h1' := not_false h1
      go_enter Try.func92, Try.ntmps92
      go_wp2_with (go_at_call 64; (with_reducible refine (l2Side_any _ _).mono ?_); rintro e w' ⟨rfl, rfl⟩)
      exact bodyPost_ret (v := .tuple #[chartV 0 0 (.slice none 0 0), .bool false]) (by simp [results, Try.results92, go_sem, g0, g1, g2]) rfl ⟨none, 0, rfl, Own.nil _ _, hb0.out⟩
set_option maxRecDepth 100000 in
set_option maxHeartbeats 4000000 in
theorem specRepeatMotif_any (W H : Int) (A : Option Addr) (n c B : Nat) (xs : List Int) (a d : Int) (w : World) (hR : Rd w B A n c xs) (hB : B ≤ w.heap.size) :
    Calls Try.prog 69 #[chartV W H (.slice A n c), .int .i64 a, .int .i64 d] w (OutChart w (orZero (repAll W H xs a d) (a * W)) (orZero (repAll W H xs a d) (d * H)) (repX W H xs a d) (repAll W H xs a d)) := by
  have hb0 := Lib.hid (((Below.refl w.heap.size w).alloc (Nat.le_refl _) (.cells #[.int .i64 W, .int .i64 H, .slice A n c] 26)).alloc (by simp) (.cells #[.int .i64 0, .int .i64 0, .slice none 0 0] 26))
  have h' := Lib.hid ((hR.alloc hB (.cells #[.int .i64 W, .int .i64 H, .slice A n c] 26)).alloc (by simp; omega) (.cells #[.int .i64 0, .int .i64 0, .slice none 0 0] 26))
  have r0 := (Blk.new (w.alloc (.cells #[.int .i64 W, .int .i64 H, .slice A n c] 26)) #[.int .i64 0, .int .i64 0, .slice none 0 0] 26)
  have x0 := (Blk.new w #[.int .i64 W, .int .i64 H, .slice A n c] 26).alloc (.cells #[.int .i64 0, .int .i64 0, .slice none 0 0] 26)
  by_cases h : repOk W H xs a d = true
  · obtain ⟨hg, ha, hd⟩ := rep_yes h
    have hall : repAll W H xs a d = (isSideB (a * W) && isSideB (d * H)) := by unfold repAll; rw [h]; simp
    have hX : repX W H xs a d = if (isSideB (a * W) && isSideB (d * H)) = true then repL W.toNat H.toNat xs a.toNat d.toNat else [] := by unfold repX; rw [hall]
    obtain ⟨ok, hok⟩ : ∃ ok, Hid (repAll W H xs a d = ok) := ⟨_, rfl⟩
    obtain ⟨ys, hys⟩ : ∃ ys, Hid (repX W H xs a d = ys) := ⟨_, rfl⟩
    have HALL := Lib.hid (hall.symm.trans hok.out)
    have HX := Lib.hid (hX.symm.trans hys.out)
    rw [hok.out, hys.out]
    clear hX hall h hok hys
    obtain ⟨m, k, rfl, rfl, m1, m8, k1, k8, hl, h64, hl1, hcol⟩ := good_nat hg
    obtain ⟨a, rfl, a1, a8⟩ := isSideB_nat ha
    obtain ⟨d, rfl, d1, d8⟩ := isSideB_nat hd
    simp only [Int.toNat_natCast] at HX
    obtain rfl := hR.len
    obtain ⟨b, off, rfl, _, _⟩ := hR.cells (by omega)
    clear hR
    obtain ⟨M, hM⟩ : ∃ M, M = a * m := ⟨_, rfl⟩
    obtain ⟨K, hK⟩ : ∃ K, K = d * k := ⟨_, rfl⟩
    have hM64 : M ≤ 64 := by rw [hM]; exact Nat.mul_le_mul a8 m8
    have hK64 : K ≤ 64 := by rw [hK]; exact Nat.mul_le_mul d8 k8
    have hwM : IntKind.i64.wrap ((a : Int) * (m : Int)) = (M : Int) := by rw [← Int.natCast_mul, ← hM]; exact IntWalk.i64_in _ (by omega)
    have hwK : IntKind.i64.wrap ((d : Int) * (k : Int)) = (K : Int) := by rw [← Int.natCast_mul, ← hK]; exact IntWalk.i64_in _ (by omega)
    have hM1 : 1 ≤ M := by rw [hM]; exact Nat.mul_le_mul a1 m1
    have hK1 : 1 ≤ K := by rw [hK]; exact Nat.mul_le_mul d1 k1
    have HM := Lib.hid hM
    have HK := Lib.hid hK
    rw [show (a : Int) * (m : Int) = (M : Int) by rw [hM, Int.natCast_mul], show (d : Int) * (k : Int) = (K : Int) by rw [hK, Int.natCast_mul]] at HALL HX ⊢
    clear hM hK
    go_enter Try.func69, Try.ntmps69
    go_wp2_with fail
    refine (l2Good_any m k _ _ c B xs _ h'.out (by simp; omega)).mono ?_
    rintro e w1 ⟨rfl, hb⟩
    have r1 := (r0.all hb).at_ (q := w.heap.size + 1) (by simp)
    have x1 := x0.all hb
    have R1 := h'.out.all hb (by simp; omega)
    have HB := Lib.hid (hb0.out.trans (hb.mono (by simp; omega)))
    have hsz := r1.lt
    have e0 := x1.cell 0
    have e1 := x1.cell 1
    have e2 := x1.cell 2
    clear hb r0 x0 h' hb0
    rw [hg]
    go_wp2_with (go_at_call 91; (with_reducible refine (l6Times_any _ _).mono ?_); rintro e w' ⟨rfl, rfl⟩)
    refine (l6Blank_any M K _).mono ?_
    rintro e w2 ⟨A2, c2, rfl, own2, hb2⟩
    have r2 := r1.all hb2
    have x2 := x1.all hb2
    have R2 := R1.all hb2 (by omega)
    have HB2 := Lib.hid (HB.out.trans (hb2.mono (by omega)))
    have hz2 : w1.heap.size ≤ w2.heap.size := hb2.size
    replace own2 := own2.mono (show w.heap.size ≤ _ by omega)
    clear hb2 e0 e1 e2 r1 x1 R1 HB
    by_cases hMK : (isSideB (M : Int) && isSideB (K : Int)) = true
    rotate_left
    · have hno := not_false hMK
      have hok' : ok = false := HALL.out.symm.trans hno
      have hys' : ys = [] := by rw [← HX.out, hno]; rfl
      subst hok'
      subst hys'
      rw [hno]
      have g0 := r2.cell 0
      have g1 := r2.cell 1
      have g2 := r2.cell 2
      have z0 := r2.frozen 0
      have z1 := r2.frozen 1
      have z2 := r2.frozen 2
      have hzr := r2.lt
      clear own2
      go_wp2_with fail
      have F := fin3 (p := w.heap.size + 1) (a := .int .i64 0) (b := .int .i64 0) (c := .slice none 0 0) (Own.nil w2 w.heap.size) (by simp [Value.ownBlock]) HB2.out (by omega)
      exact bodyPost_ret (v := .tuple #[chartV 0 0 (.slice none 0 0), .bool false]) (by simp [results, Try.results69, go_sem, g0, g1, g2, hzr]) rfl ⟨none, 0, rfl, F.1.alloc _, F.2.alloc (by simp [World.setCell]; omega) _⟩
    · have hok' : ok = true := HALL.out.symm.trans hMK
      have hM8 : M ≤ 8 := by have := isSideB_yes (show isSideB (M : Int) = true by simp at hMK; exact hMK.1); omega
      have hK8 : K ≤ 8 := by have := isSideB_yes (show isSideB (K : Int) = true by simp at hMK; exact hMK.2); omega
      rw [if_pos hMK] at own2 ⊢
      rw [hMK]
      subst hok'
      have HYS := Lib.hid (show ys = _ from (HX.out.symm.trans (if_pos hMK)))
      have hrl : (List.replicate (M * K) (0 : Int)).length = M * K := List.length_replicate
      have hMK1 : 1 * 1 ≤ M * K := Nat.mul_le_mul hM1 hK1
      obtain ⟨g2, rfl, _, _⟩ := own2.some_ (by rw [hrl]; omega)
      obtain ⟨z0, hz0⟩ : ∃ z0, List.replicate (M * K) (0 : Int) = z0 := ⟨_, rfl⟩
      have HT0 := Lib.hid (show TileTo m k a d (repF m xs) 0 0 z0 from tile_start (by rw [← hz0, hrl, HM.out, HK.out]))
      rw [hz0] at own2 ⊢
      clear hz0 hrl hMK1 hMK
      simp only [orZero, if_true]
      go_wp2_with fail
      have y2 := Blk.new w2 #[.int .i64 (M : Int), .int .i64 (K : Int), .slice (some ⟨g2, 0, none⟩) z0.length c2] 26
      have r3 := r2.alloc (.cells #[.int .i64 (M : Int), .int .i64 (K : Int), .slice (some ⟨g2, 0, none⟩) z0.length c2] 26)
      have x3 := x2.alloc (.cells #[.int .i64 (M : Int), .int .i64 (K : Int), .slice (some ⟨g2, 0, none⟩) z0.length c2] 26)
      have own3 := own2.alloc (.cells #[.int .i64 (M : Int), .int .i64 (K : Int), .slice (some ⟨g2, 0, none⟩) z0.length c2] 26)
      have R3 := R2.alloc (by omega) (.cells #[.int .i64 (M : Int), .int .i64 (K : Int), .slice (some ⟨g2, 0, none⟩) z0.length c2] 26)
      have HB3 := Lib.hid (HB2.out.alloc (by omega) (.cells #[.int .i64 (M : Int), .int .i64 (K : Int), .slice (some ⟨g2, 0, none⟩) z0.length c2] 26))
      clear r2 x2 own2 R2 HB2
      go_loopw [10, 11] (fun s10 _ wr => ∃ (i g c' : Nat) (zs : List Int), i ≤ d ∧ s10 = .int .i64 i ∧ Hid (TileTo m k a d (repF m xs) i 0 zs) ∧ Own wr w.heap.size (.slice (some ⟨g, 0, none⟩) zs.length c') zs ∧ Blk wr w2.heap.size 26 #[.int .i64 (M : Int), .int .i64 (K : Int), .slice (some ⟨g, 0, none⟩) zs.length c'] ∧ Blk wr w.heap.size 26 #[.int .i64 (m : Int), .int .i64 (k : Int), .slice (some ⟨b, off, none⟩) xs.length c] ∧ Blk wr (w.heap.size + 1) 26 #[.int .i64 0, .int .i64 0, .slice none 0 0] ∧ Rd wr B (some ⟨b, off, none⟩) xs.length c xs ∧ Hid (Below w.heap.size w wr)) (fun s10 _ _ => d - (intOf s10).toNat)
      case atStart => exact ⟨0, g2, c2, z0, Nat.zero_le _, rfl, HT0, own3, y2, x3, r3, R3, HB3⟩
      case round =>
        clear HT0 own3 y2 x3 r3 R3 HB3
        obtain ⟨i, g, c', zs, hi, rfl, HT, ho, y1, x1, r1, R1, HB⟩ := hrel
        by_cases hid : i < d
        · obtain ⟨Ri, hRi⟩ : ∃ Ri, Ri = i * k := ⟨_, rfl⟩
          have hRK : Ri + k ≤ K := by rw [hRi, HK.out, ← Nat.succ_mul]; exact Nat.mul_le_mul_right _ hid
          have hwR : IntKind.i64.wrap ((i : Int) * (k : Int)) = (Ri : Int) := by rw [← Int.natCast_mul, ← hRi]; exact IntWalk.i64_in _ (by omega)
          have HRi := Lib.hid hRi
          clear hRi
          go_wp2_with fail
          go_loopw [11] (fun s11 wr => ∃ (j g c' : Nat) (zs : List Int), j ≤ a ∧ s11 = .int .i64 j ∧ Hid (TileTo m k a d (repF m xs) i j zs) ∧ Own wr w.heap.size (.slice (some ⟨g, 0, none⟩) zs.length c') zs ∧ Blk wr w2.heap.size 26 #[.int .i64 (M : Int), .int .i64 (K : Int), .slice (some ⟨g, 0, none⟩) zs.length c'] ∧ Blk wr w.heap.size 26 #[.int .i64 (m : Int), .int .i64 (k : Int), .slice (some ⟨b, off, none⟩) xs.length c] ∧ Blk wr (w.heap.size + 1) 26 #[.int .i64 0, .int .i64 0, .slice none 0 0] ∧ Rd wr B (some ⟨b, off, none⟩) xs.length c xs ∧ Hid (Below w.heap.size w wr)) (fun s11 _ => a - (intOf s11).toNat)
          case atStart => exact ⟨0, g, c', zs, Nat.zero_le _, rfl, HT, ho, y1, x1, r1, R1, HB⟩
          case round =>
            clear HT ho y1 x1 r1 R1 HB
            obtain ⟨j, g, c', zs, hj, rfl, HT, ho, y1, x1, r1, R1, HB⟩ := hrel
            by_cases hja : j < a
            · obtain ⟨Q, hQ⟩ : ∃ Q, Q = j * m := ⟨_, rfl⟩
              have hQM : Q + m ≤ M := by rw [hQ, HM.out, ← Nat.succ_mul]; exact Nat.mul_le_mul_right _ hja
              have hwQ : IntKind.i64.wrap ((j : Int) * (m : Int)) = (Q : Int) := by rw [← Int.natCast_mul, ← hQ]; exact IntWalk.i64_in _ (by omega)
              have HN := Lib.hid (show TileTo m k a d (repF m xs) i (j + 1) (putL M K m k zs xs Ri Q) by rw [HM.out, HK.out, HRi.out, hQ]; exact tile_one m1 k1 HT.out (fun _ _ _ _ => rfl))
              have hzl := Lib.hid (show zs.length = M * K by rw [HT.out.1, HM.out, HK.out])
              have hMK64 : M * K ≤ 64 := Nat.mul_le_mul hM8 hK8
              have hMK1 : 1 * 1 ≤ M * K := Nat.mul_le_mul hM1 hK1
              have hz1 : 1 ≤ zs.length := by rw [hzl.out]; omega
              have hmk64 : m * k ≤ 64 := Nat.mul_le_mul m8 k8
              have hwz := HB.out.size
              have y10 := y1.cell 0
              have y11 := y1.cell 1
              have y12 := y1.cell 2
              have x10 := x1.cell 0
              have x11 := x1.cell 1
              have x12 := x1.cell 2
              clear hQ HT hMK1
              go_wp2_with fail
              refine (l2Put_any M K m k g 0 c' wr.heap.size b off c B Ri Q zs xs wr ho.rd R1 (Nat.le_refl _) (Nat.le_trans hB hwz) hM8 hK8 m1 hzl hl hMK64 hmk64 hz1 hRK hQM).mono ?_
              rintro e w5 ⟨A5, c5, rfl, own5, hb5⟩
              have y5 := y1.all hb5
              have x5 := x1.all hb5
              have r5 := r1.all hb5
              have R5 := R1.all hb5 (Nat.le_trans hB hwz)
              have HB5 := Lib.hid (HB.out.trans (hb5.mono hwz))
              obtain ⟨g5, rfl, hg51, hg52⟩ := own5.some_ (by rw [putL_len]; have : 1 * 1 ≤ K * M := Nat.mul_le_mul hK1 hM1; omega)
              replace own5 := own5.mono hwz
              have y50 := y5.cell 0
              have y51 := y5.cell 1
              have y52 := y5.cell 2
              have z50 := y5.frozen 0
              have z51 := y5.frozen 1
              have z52 := y5.frozen 2
              have hz5 := y5.lt
              clear y10 y11 y12 x10 x11 x12 hb5 y1 x1 r1 R1 HB ho
              obtain ⟨ps, hps⟩ : ∃ ps, ps = putL M K m k zs xs Ri Q := ⟨_, rfl⟩
              rw [← hps] at own5 HN ⊢
              clear hps
              go_wp2_with fail
              have hyx : w.heap.size ≠ w2.heap.size := by omega
              have hyr : w.heap.size + 1 ≠ w2.heap.size := by omega
              have hne := row_ne' own5.1 y5 (by decide)
              have own6 := ((own5.far (a := ⟨w2.heap.size, 0, none⟩) hne (.int .i64 (M : Int))).far (a := ⟨w2.heap.size, 1, none⟩) hne (.int .i64 (K : Int))).far (a := ⟨w2.heap.size, 2, none⟩) hne (.slice (some ⟨g5, 0, none⟩) ps.length c5)
              have y6 := y5.put3 (a' := .int .i64 (M : Int)) (b' := .int .i64 (K : Int)) (c' := .slice (some ⟨g5, 0, none⟩) ps.length c5)
              have x6 := x5.far3 (a' := .int .i64 (M : Int)) (b' := .int .i64 (K : Int)) (c' := .slice (some ⟨g5, 0, none⟩) ps.length c5) hyx
              have r6 := r5.far3 (a' := .int .i64 (M : Int)) (b' := .int .i64 (K : Int)) (c' := .slice (some ⟨g5, 0, none⟩) ps.length c5) hyr
              have R6 := R5.keep (w' := ((w5.setCell ⟨w2.heap.size, 0, none⟩ (.int .i64 (M : Int))).setCell ⟨w2.heap.size, 1, none⟩ (.int .i64 (K : Int))).setCell ⟨w2.heap.size, 2, none⟩ (.slice (some ⟨g5, 0, none⟩) ps.length c5)) (fun bb oo hbb => by rw [World.cell?_setCell_far _ _ _ _ (by simp; omega), World.cell?_setCell_far _ _ _ _ (by simp; omega), World.cell?_setCell_far _ _ _ _ (by simp; omega)])
              have HB6 := Lib.hid (((HB5.out.setCell (p := ⟨w2.heap.size, 0, none⟩) (by simp; omega) (.int .i64 (M : Int))).setCell (p := ⟨w2.heap.size, 1, none⟩) (by simp; omega) (.int .i64 (K : Int))).setCell (p := ⟨w2.heap.size, 2, none⟩) (by simp; omega) (.slice (some ⟨g5, 0, none⟩) ps.length c5))
              go_roundw
              case rel => exact ⟨j + 1, g5, c5, ps, by omega, by go_num, HN, own6, y6, x6, r6, R6, HB6⟩
              case measure => simp [intOf]; omega
            · obtain rfl : j = a := by omega
              go_wp2
              go_roundw
              case rel => exact ⟨i + 1, g, c', zs, by omega, by go_num, Lib.hid (tile_row HT.out), ho, y1, x1, r1, R1, HB⟩
              case measure => simp [intOf]; omega
        · obtain rfl : i = d := by omega
          have hzy : zs = ys := (tile_end HT.out).trans HYS.out.symm
          subst hzy
          have y10 := y1.cell 0
          have y11 := y1.cell 1
          have y12 := y1.cell 2
          have g0 := r1.cell 0
          have g1 := r1.cell 1
          have g2 := r1.cell 2
          have z0 := r1.frozen 0
          have z1 := r1.frozen 1
          have z2 := r1.frozen 2
          have F := fin3 (p := w.heap.size + 1) (a := .int .i64 (M : Int)) (b := .int .i64 (K : Int)) (c := .slice (some ⟨g, 0, none⟩) zs.length c') ho (row_ne' ho.1 r1 (by decide)) HB.out (by omega)
          go_wp2
          exact bodyPost_ret (v := .tuple #[chartV (M : Int) (K : Int) (.slice (some ⟨g, 0, none⟩) zs.length c'), .bool true]) (by simp [results, Try.results69, go_sem, g0, g1, g2]) rfl ⟨_, _, by rfl, F.1, F.2⟩
  · have hno : repAll W H xs a d = false := by unfold repAll; rw [not_false h]; rfl
    have hX : repX W H xs a d = [] := by unfold repX; rw [hno]; rfl
    rw [hX, hno]
    rcases rep_no h with hg | ⟨hg, ha⟩ | ⟨hg, ha, hd⟩
    all_goals
      go_enter Try.func69, Try.ntmps69
      go_wp2_with fail
      refine (l2Good_any W H A n c B xs _ h'.out (by simp; omega)).mono ?_
      rintro e w1 ⟨rfl, hb⟩
      have r1 := (r0.all hb).at_ (q := w.heap.size + 1) (by simp)
      have HB := Lib.hid (hb0.out.trans (hb.mono (by simp; omega)))
      have g0 := r1.cell 0
      have g1 := r1.cell 1
      have g2 := r1.cell 2
      have z0 := r1.frozen 0
      have z1 := r1.frozen 1
      have z2 := r1.frozen 2
      clear hb r0
      rw [hg]
      go_wp2_with (go_at_call 91; (with_reducible refine (l6Times_any _ _).mono ?_); rintro e w' ⟨rfl, rfl⟩)
      have F := fin3 (p := w.heap.size + 1) (a := .int .i64 0) (b := .int .i64 0) (c := .slice none 0 0) (Own.nil w1 w.heap.size) (by simp [Value.ownBlock]) HB.out (by omega)
      exact bodyPost_ret (v := .tuple #[chartV 0 0 (.slice none 0 0), .bool false]) (by simp [results, Try.results69, go_sem, g0, g1, g2]) rfl ⟨none, 0, rfl, F.1, F.2⟩
end Go.Proofs.Ytpmhnklmhfadlaa
