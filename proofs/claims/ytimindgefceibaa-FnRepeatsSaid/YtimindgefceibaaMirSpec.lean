/- The walk of the model's MirrorRepeat. No condition. -/
import Derived.Test.YtimindgefceibaaTileSpec
import Derived.Test.YtimindgefceibaaMirImpl
import Derived.Test.YtimindgefceibaaSpecTurn
namespace Go.Proofs.Ytimindgefceibaa
open Go.RowKit

theorem rem2n (s : Nat) : Int.tmod (s : Int) 2 = ((s % 2 : Nat) : Int) := by
  rw [Int.tmod_eq_emod_of_nonneg (by omega)]; omega
set_option maxRecDepth 100000 in
set_option maxHeartbeats 4000000 in
theorem specMirrorRepeat_any (W H : Int) (A : Option Addr) (n c B : Nat) (xs : List Int) (a : Int) (w : World) (hR : Rd w B A n c xs) (hB : B ≤ w.heap.size) :
    Calls Try.prog 15 #[chartV W H (.slice A n c), .int .i64 a] w (OutChart w (orZero (mirAll W H xs a) (a * W)) (orZero (mirAll W H xs a) H) (mirX W H xs a) (mirAll W H xs a)) := by
  have hb0 := Lib.hid (((Below.refl w.heap.size w).alloc (Nat.le_refl _) (.cells #[.int .i64 W, .int .i64 H, .slice A n c] 26)).alloc (by simp) (.cells #[.int .i64 0, .int .i64 0, .slice none 0 0] 26))
  have h' := Lib.hid ((hR.alloc hB (.cells #[.int .i64 W, .int .i64 H, .slice A n c] 26)).alloc (by simp; omega) (.cells #[.int .i64 0, .int .i64 0, .slice none 0 0] 26))
  have r0 := (Blk.new (w.alloc (.cells #[.int .i64 W, .int .i64 H, .slice A n c] 26)) #[.int .i64 0, .int .i64 0, .slice none 0 0] 26)
  have x0 := (Blk.new w #[.int .i64 W, .int .i64 H, .slice A n c] 26).alloc (.cells #[.int .i64 0, .int .i64 0, .slice none 0 0] 26)
  by_cases h : mirOk W H xs a = true
  · obtain ⟨hg, ha⟩ := mir_yes h
    have hall : mirAll W H xs a = isSideB (a * W) := by unfold mirAll; rw [h]; simp
    have hX : mirX W H xs a = if isSideB (a * W) = true then mirRepL W.toNat H.toNat xs a.toNat else [] := by unfold mirX; rw [hall]
    obtain ⟨ok, hok⟩ : ∃ ok, Hid (mirAll W H xs a = ok) := ⟨_, rfl⟩
    obtain ⟨ys, hys⟩ : ∃ ys, Hid (mirX W H xs a = ys) := ⟨_, rfl⟩
    have HALL := Lib.hid (hall.symm.trans hok.out)
    have HX := Lib.hid (hX.symm.trans hys.out)
    rw [hok.out, hys.out]
    clear hX hall h hok hys
    obtain ⟨m, k, rfl, rfl, m1, m8, k1, k8, hl, h64, hl1, hcol⟩ := good_nat hg
    obtain ⟨a, rfl, a1, a8⟩ := isSideB_nat ha
    simp only [Int.toNat_natCast] at HX
    obtain rfl := hR.len
    obtain ⟨b, off, rfl, _, _⟩ := hR.cells (by omega)
    clear hR
    obtain ⟨M, hM⟩ : ∃ M, M = a * m := ⟨_, rfl⟩
    obtain ⟨K, hK⟩ : ∃ K, K = k := ⟨_, rfl⟩
    have hM64 : M ≤ 64 := by rw [hM]; exact Nat.mul_le_mul a8 m8
    have hK64 : K ≤ 64 := by omega
    have hwM : IntKind.i64.wrap ((a : Int) * (m : Int)) = (M : Int) := by rw [← Int.natCast_mul, ← hM]; exact IntWalk.i64_in _ (by omega)
    have hM1 : 1 ≤ M := by rw [hM]; exact Nat.mul_le_mul a1 m1
    have hK1 : 1 ≤ K := by omega
    have hKs : isSideB (K : Int) = true := by unfold isSideB; rw [decide_eq_true_eq]; omega
    have HM := Lib.hid hM
    have HK := Lib.hid hK
    rw [show (a : Int) * (m : Int) = (M : Int) by rw [hM, Int.natCast_mul]] at HALL HX ⊢
    rw [show isSideB (M : Int) = (isSideB (M : Int) && isSideB (K : Int)) by rw [hKs, Bool.and_true]] at HALL HX
    rw [show orZero ok (k : Int) = orZero ok (K : Int) by rw [hK]]
    clear hM
    go_enter Try.func15, Try.ntmps15
    go_wp2_with fail
    refine (l2Good_any m k _ _ c B xs _ h'.out (by simp; omega)).mono ?_
    rintro e w1 ⟨rfl, hb⟩
    have r1 := (r0.all hb).at_ (q := w.heap.size + 1) (by simp)
    have x1 := x0.all hb
    have R1 := h'.out.all hb (by simp; omega)
    have HB := Lib.hid (hb0.out.trans (hb.mono (by simp; omega)))
    have hsz := r1.lt
    have e0 := x1.cell 0
    have e1 : w1.cell? ⟨w.heap.size, 1, none⟩ = some (.int .i64 (K : Int)) := (x1.cell 1).trans (by rw [hK]; rfl)
    have e2 := x1.cell 2
    clear hb r0 x0 h' hb0
    rw [hg]
    clear hK
    go_wp2_with (go_at_call 41; (with_reducible refine (l6Times_any _ _).mono ?_); rintro e w' ⟨rfl, rfl⟩)
    refine (l6Blank_any M K _).mono ?_
    rintro e w2 ⟨A2, c2, rfl, own2, hb2⟩
    have r2 := r1.all hb2
    have x2 := x1.all hb2
    have R2 := R1.all hb2 (by omega)
    have HB2 := Lib.hid (HB.out.trans (hb2.mono (by omega)))
    have hz2 : w1.heap.size ≤ w2.heap.size := hb2.size
    replace own2 := own2.mono (show w.heap.size ≤ _ by omega)
    clear hb2 e0 e1 e2 r1 x1 R1 HB
    by_cases hMK : (isSideB (M : Int) && isSideB (K : Int)) = true
    rotate_left
    · have hno := not_false hMK
      have hok' : ok = false := HALL.out.symm.trans hno
      have hys' : ys = [] := by rw [← HX.out, hno]; rfl
      subst hok'
      subst hys'
      rw [hno]
      have g0 := r2.cell 0
      have g1 := r2.cell 1
      have g2 := r2.cell 2
      have z0 := r2.frozen 0
      have z1 := r2.frozen 1
      have z2 := r2.frozen 2
      have hzr := r2.lt
      clear own2
      go_wp2_with fail
      have F := fin3 (p := w.heap.size + 1) (a := .int .i64 0) (b := .int .i64 0) (c := .slice none 0 0) (Own.nil w2 w.heap.size) (by simp [Value.ownBlock]) HB2.out (by omega)
      exact bodyPost_ret (v := .tuple #[chartV 0 0 (.slice none 0 0), .bool false]) (by simp [results, Try.results15, go_sem, g0, g1, g2, hzr]) rfl ⟨none, 0, rfl, F.1.alloc _, F.2.alloc (by simp [World.setCell]; omega) _⟩
    · have hok' : ok = true := HALL.out.symm.trans hMK
      have hM8 : M ≤ 8 := by have := isSideB_yes (show isSideB (M : Int) = true by simp at hMK; exact hMK.1); omega
      have hK8 : K ≤ 8 := by have := isSideB_yes (show isSideB (K : Int) = true by simp at hMK; exact hMK.2); omega
      rw [if_pos hMK] at own2 ⊢
      rw [hMK]
      subst hok'
      have HYS := Lib.hid (show ys = _ from (HX.out.symm.trans (if_pos hMK)))
      have hrl : (List.replicate (M * K) (0 : Int)).length = M * K := List.length_replicate
      have hMK1 : 1 * 1 ≤ M * K := Nat.mul_le_mul hM1 hK1
      obtain ⟨g2, rfl, _, _⟩ := own2.some_ (by rw [hrl]; omega)
      obtain ⟨z0, hz0⟩ : ∃ z0, List.replicate (M * K) (0 : Int) = z0 := ⟨_, rfl⟩
      have HT0 := Lib.hid (show TileTo m k a 1 (mirF m xs) 0 0 z0 from tile_start (by rw [← hz0, hrl, HM.out, HK.out, Nat.one_mul]))
      rw [hz0] at own2 ⊢
      clear hz0 hrl hMK1 hMK hKs
      simp only [orZero, if_true]
      go_wp2_with fail
      have y2 := Blk.new w2 #[.int .i64 (M : Int), .int .i64 (K : Int), .slice (some ⟨g2, 0, none⟩) z0.length c2] 26
      have r3 := r2.alloc (.cells #[.int .i64 (M : Int), .int .i64 (K : Int), .slice (some ⟨g2, 0, none⟩) z0.length c2] 26)
      have x3 := x2.alloc (.cells #[.int .i64 (M : Int), .int .i64 (K : Int), .slice (some ⟨g2, 0, none⟩) z0.length c2] 26)
      have own3 := own2.alloc (.cells #[.int .i64 (M : Int), .int .i64 (K : Int), .slice (some ⟨g2, 0, none⟩) z0.length c2] 26)
      have R3 := R2.alloc (by omega) (.cells #[.int .i64 (M : Int), .int .i64 (K : Int), .slice (some ⟨g2, 0, none⟩) z0.length c2] 26)
      have HB3 := Lib.hid (HB2.out.alloc (by omega) (.cells #[.int .i64 (M : Int), .int .i64 (K : Int), .slice (some ⟨g2, 0, none⟩) z0.length c2] 26))
      clear r2 x2 own2 R2 HB2
      go_loopw [8, 9] (fun s8 _ wr => ∃ (j g c' : Nat) (zs : List Int), j ≤ a ∧ s8 = .int .i64 j ∧ Hid (TileTo m k a 1 (mirF m xs) 0 j zs) ∧ Own wr w.heap.size (.slice (some ⟨g, 0, none⟩) zs.length c') zs ∧ Blk wr w2.heap.size 26 #[.int .i64 (M : Int), .int .i64 (K : Int), .slice (some ⟨g, 0, none⟩) zs.length c'] ∧ Blk wr w.heap.size 26 #[.int .i64 (m : Int), .int .i64 (k : Int), .slice (some ⟨b, off, none⟩) xs.length c] ∧ Blk wr (w.heap.size + 1) 26 #[.int .i64 0, .int .i64 0, .slice none 0 0] ∧ Rd wr B (some ⟨b, off, none⟩) xs.length c xs ∧ Hid (Below w.heap.size w wr)) (fun s8 _ _ => a - (intOf s8).toNat)
      case atStart => exact ⟨0, g2, c2, z0, Nat.zero_le _, rfl, HT0, own3, y2, x3, r3, R3, HB3⟩
      case round =>
        clear HT0 own3 y2 x3 r3 R3 HB3
        obtain ⟨j, g, c', zs, hj, rfl, HT, ho, y1, x1, r1, R1, HB⟩ := hrel
        by_cases hja : j < a
        · obtain ⟨Q, hQ⟩ : ∃ Q, Q = j * m := ⟨_, rfl⟩
          have hQM : Q + m ≤ M := by rw [hQ, HM.out, ← Nat.succ_mul]; exact Nat.mul_le_mul_right _ hja
          have hRK : 0 + k ≤ K := by rw [HK.out]; omega
          have hwQ : IntKind.i64.wrap ((j : Int) * (m : Int)) = (Q : Int) := by rw [← Int.natCast_mul, ← hQ]; exact IntWalk.i64_in _ (by omega)
          have hzl := Lib.hid (show zs.length = M * K by rw [HT.out.1, HM.out, HK.out, Nat.one_mul])
          have hMK64 : M * K ≤ 64 := Nat.mul_le_mul hM8 hK8
          have hMK1 : 1 * 1 ≤ M * K := Nat.mul_le_mul hM1 hK1
          have hz1 : 1 ≤ zs.length := by rw [hzl.out]; omega
          have hmk64 : m * k ≤ 64 := Nat.mul_le_mul m8 k8
          have hwz := HB.out.size
          have HST := Lib.hid (fun (vs : List Int) (hf : ∀ i' j', i' < k → j' < m → elt m vs i' j' = mirF m xs 0 j i' j') => (show TileTo m k a 1 (mirF m xs) 0 (j + 1) (putL M K m k zs vs 0 Q) by
            have := tile_one m1 k1 HT.out hf
            rw [HM.out, HK.out, hQ]
            rwa [Nat.one_mul, Nat.zero_mul] at this))
          have y10 := y1.cell 0
          have y11 := y1.cell 1
          have y12 := y1.cell 2
          have x10 := x1.cell 0
          have x11 := x1.cell 1
          have x12 := x1.cell 2
          have hzy := y1.lt
          have hzx := x1.lt
          have hrem := rem2n j
          clear hQ HT hMK1
          by_cases hodd : j % 2 = 1
          · have hrem1 : Int.tmod (j : Int) 2 = 1 := by rw [hrem, hodd]; rfl
            have HN := Lib.hid (HST.out (mirrorL m k xs) (fun i' j' hi' hj' => by unfold mirF; rw [if_pos hodd]; exact mirror_elt hi' hj'))
            have hml := Lib.hid (show (mirrorL m k xs).length = m * k by rw [mirrorL_len, Nat.mul_comm])
            clear hrem HST
            go_wp2_with fail
            have yv := y1.alloc (.cells #[.int .i64 (m : Int), .int .i64 (k : Int), .slice (some ⟨b, off, none⟩) xs.length c] 26)
            have xv := x1.alloc (.cells #[.int .i64 (m : Int), .int .i64 (k : Int), .slice (some ⟨b, off, none⟩) xs.length c] 26)
            have rv := r1.alloc (.cells #[.int .i64 (m : Int), .int .i64 (k : Int), .slice (some ⟨b, off, none⟩) xs.length c] 26)
            have Rv := R1.alloc (Nat.le_trans hB hwz) (.cells #[.int .i64 (m : Int), .int .i64 (k : Int), .slice (some ⟨b, off, none⟩) xs.length c] 26)
            have hov := ho.alloc (.cells #[.int .i64 (m : Int), .int .i64 (k : Int), .slice (some ⟨b, off, none⟩) xs.length c] 26)
            have HBv := Lib.hid (HB.out.alloc hwz (.cells #[.int .i64 (m : Int), .int .i64 (k : Int), .slice (some ⟨b, off, none⟩) xs.length c] 26))
            have pv := Blk.new wr #[.int .i64 (m : Int), .int .i64 (k : Int), .slice (some ⟨b, off, none⟩) xs.length c] 26
            clear y10 y11 y12 x10 x11 x12 y1 x1 r1 R1 ho HB
            obtain ⟨wv, hwv⟩ : ∃ wv, wv = wr.alloc (.cells #[.int .i64 (m : Int), .int .i64 (k : Int), .slice (some ⟨b, off, none⟩) xs.length c] 26) := ⟨_, rfl⟩
            rw [← hwv] at yv xv rv Rv hov HBv pv ⊢
            clear hwv
            have hwv2 := HBv.out.size
            refine (l4Mirror_any m k b off c B xs wv Rv (Nat.le_trans hB hwv2) m8 k8 hl hmk64).mono ?_
            rintro e w3 ⟨A3, c3, rfl, own3, hb3⟩
            have y3 := yv.all hb3
            have x3 := xv.all hb3
            have r3 := rv.all hb3
            have p3 := pv.all hb3
            have R3 := Rv.all hb3 (Nat.le_trans hB hwv2)
            have ho3 := hov.all hb3
            have HB3 := Lib.hid (HBv.out.trans (hb3.mono hwv2))
            obtain ⟨g3, rfl, hg31, hg32⟩ := own3.some_ (by rw [hml.out, ← hl.out]; omega)
            replace own3 := own3.mono hwv2
            have y30 := y3.cell 0
            have y31 := y3.cell 1
            have y32 := y3.cell 2
            have x30 := x3.cell 0
            have x31 := x3.cell 1
            have x32 := x3.cell 2
            have p30 := p3.cell 0
            have p31 := p3.cell 1
            have p32 := p3.cell 2
            have q30 := p3.frozen 0
            have q31 := p3.frozen 1
            have q32 := p3.frozen 2
            have hp3 := p3.lt
            have hwv3 := HB3.out.size
            clear yv xv rv pv Rv hov HBv hb3
            have hypw : w2.heap.size ≠ wr.heap.size := by omega
            have hxpw : w.heap.size ≠ wr.heap.size := by omega
            have hrpw : w.heap.size + 1 ≠ wr.heap.size := by omega
            go_wp2_with fail
            have hne3 := row_ne' own3.1 p3 (by decide)
            have hne4 := row_ne' ho3.1 p3 (by decide)
            have y4 := y3.far3 (a' := .int .i64 (m : Int)) (b' := .int .i64 (k : Int)) (c' := .slice (some ⟨g3, 0, none⟩) (mirrorL m k xs).length c3) hypw
            have x4 := x3.far3 (a' := .int .i64 (m : Int)) (b' := .int .i64 (k : Int)) (c' := .slice (some ⟨g3, 0, none⟩) (mirrorL m k xs).length c3) hxpw
            have r4 := r3.far3 (a' := .int .i64 (m : Int)) (b' := .int .i64 (k : Int)) (c' := .slice (some ⟨g3, 0, none⟩) (mirrorL m k xs).length c3) hrpw
            have ho4 := ((ho3.far (a := ⟨wr.heap.size, 0, none⟩) hne4 (.int .i64 (m : Int))).far (a := ⟨wr.heap.size, 1, none⟩) hne4 (.int .i64 (k : Int))).far (a := ⟨wr.heap.size, 2, none⟩) hne4 (.slice (some ⟨g3, 0, none⟩) (mirrorL m k xs).length c3)
            have own4 := ((own3.far (a := ⟨wr.heap.size, 0, none⟩) hne3 (.int .i64 (m : Int))).far (a := ⟨wr.heap.size, 1, none⟩) hne3 (.int .i64 (k : Int))).far (a := ⟨wr.heap.size, 2, none⟩) hne3 (.slice (some ⟨g3, 0, none⟩) (mirrorL m k xs).length c3)
            have R4 := R3.keep (w' := ((w3.setCell ⟨wr.heap.size, 0, none⟩ (.int .i64 (m : Int))).setCell ⟨wr.heap.size, 1, none⟩ (.int .i64 (k : Int))).setCell ⟨wr.heap.size, 2, none⟩ (.slice (some ⟨g3, 0, none⟩) (mirrorL m k xs).length c3)) (fun bb oo hbb => by rw [World.cell?_setCell_far _ _ _ _ (by simp; omega), World.cell?_setCell_far _ _ _ _ (by simp; omega), World.cell?_setCell_far _ _ _ _ (by simp; omega)])
            have HB4 := Lib.hid (((HB3.out.setCell (p := ⟨wr.heap.size, 0, none⟩) (by simp; omega) (.int .i64 (m : Int))).setCell (p := ⟨wr.heap.size, 1, none⟩) (by simp; omega) (.int .i64 (k : Int))).setCell (p := ⟨wr.heap.size, 2, none⟩) (by simp; omega) (.slice (some ⟨g3, 0, none⟩) (mirrorL m k xs).length c3))
            clear y30 y31 y32 x30 x31 x32 p30 p31 p32 q30 q31 q32 hp3 y3 x3 r3 p3 R3 ho3 HB3 own3
            obtain ⟨w4, hw4⟩ : ∃ w4, w4 = ((w3.setCell ⟨wr.heap.size, 0, none⟩ (.int .i64 (m : Int))).setCell ⟨wr.heap.size, 1, none⟩ (.int .i64 (k : Int))).setCell ⟨wr.heap.size, 2, none⟩ (.slice (some ⟨g3, 0, none⟩) (mirrorL m k xs).length c3) := ⟨_, rfl⟩
            rw [← hw4] at y4 x4 r4 R4 ho4 own4 HB4 ⊢
            clear hw4
            refine (l2Put_any M K m k g 0 c' w4.heap.size g3 0 c3 w4.heap.size 0 Q zs (mirrorL m k xs) w4 ho4.rd own4.rd (Nat.le_refl _) (Nat.le_refl _) hM8 hK8 m1 hzl hml hMK64 hmk64 hz1 hRK hQM).mono ?_
            rintro e w5 ⟨A5, c5, rfl, own5, hb5⟩
            have hws : w.heap.size ≤ w4.heap.size := HB4.out.size
            have y5 := y4.all hb5
            have x5 := x4.all hb5
            have r5 := r4.all hb5
            have R5 := R4.all hb5 (Nat.le_trans hB hws)
            have HB5 := Lib.hid (HB4.out.trans (hb5.mono hws))
            obtain ⟨g5, rfl, hg51, hg52⟩ := own5.some_ (by rw [putL_len]; have : 1 * 1 ≤ K * M := Nat.mul_le_mul hK1 hM1; omega)
            replace own5 := own5.mono hws
            have y50 := y5.cell 0
            have y51 := y5.cell 1
            have y52 := y5.cell 2
            have z50 := y5.frozen 0
            have z51 := y5.frozen 1
            have z52 := y5.frozen 2
            have hz5 := y5.lt
            clear hb5 y4 x4 r4 R4 HB4 ho4
            obtain ⟨ps, hps⟩ : ∃ ps, ps = putL M K m k zs (mirrorL m k xs) 0 Q := ⟨_, rfl⟩
            have HNP := Lib.hid (show TileTo m k a 1 (mirF m xs) 0 (j + 1) ps by rw [hps]; exact HN.out)
            rw [← hps] at own5 ⊢
            clear hps
            go_wp2_with fail
            have hyx : w.heap.size ≠ w2.heap.size := by omega
            have hyr : w.heap.size + 1 ≠ w2.heap.size := by omega
            have hne := row_ne' own5.1 y5 (by decide)
            have own6 := ((own5.far (a := ⟨w2.heap.size, 0, none⟩) hne (.int .i64 (M : Int))).far (a := ⟨w2.heap.size, 1, none⟩) hne (.int .i64 (K : Int))).far (a := ⟨w2.heap.size, 2, none⟩) hne (.slice (some ⟨g5, 0, none⟩) ps.length c5)
            have y6 := y5.put3 (a' := .int .i64 (M : Int)) (b' := .int .i64 (K : Int)) (c' := .slice (some ⟨g5, 0, none⟩) ps.length c5)
            have x6 := x5.far3 (a' := .int .i64 (M : Int)) (b' := .int .i64 (K : Int)) (c' := .slice (some ⟨g5, 0, none⟩) ps.length c5) hyx
            have r6 := r5.far3 (a' := .int .i64 (M : Int)) (b' := .int .i64 (K : Int)) (c' := .slice (some ⟨g5, 0, none⟩) ps.length c5) hyr
            have R6 := R5.keep (w' := ((w5.setCell ⟨w2.heap.size, 0, none⟩ (.int .i64 (M : Int))).setCell ⟨w2.heap.size, 1, none⟩ (.int .i64 (K : Int))).setCell ⟨w2.heap.size, 2, none⟩ (.slice (some ⟨g5, 0, none⟩) ps.length c5)) (fun bb oo hbb => by rw [World.cell?_setCell_far _ _ _ _ (by simp; omega), World.cell?_setCell_far _ _ _ _ (by simp; omega), World.cell?_setCell_far _ _ _ _ (by simp; omega)])
            have HB6 := Lib.hid (((HB5.out.setCell (p := ⟨w2.heap.size, 0, none⟩) (by simp; omega) (.int .i64 (M : Int))).setCell (p := ⟨w2.heap.size, 1, none⟩) (by simp; omega) (.int .i64 (K : Int))).setCell (p := ⟨w2.heap.size, 2, none⟩) (by simp; omega) (.slice (some ⟨g5, 0, none⟩) ps.length c5))
            go_roundw
            case rel => exact ⟨j + 1, g5, c5, ps, by omega, by go_num, HNP, own6, y6, x6, r6, R6, HB6⟩
            case measure => simp [intOf]; omega
          · have hrem1 : ¬ Int.tmod (j : Int) 2 = 1 := by rw [hrem]; omega
            have HN := Lib.hid (HST.out xs (fun i' j' hi' hj' => by unfold mirF; rw [if_neg hodd]))
            clear hrem HST
            go_wp2_with fail
            have y4 := y1.alloc (.cells #[.int .i64 (m : Int), .int .i64 (k : Int), .slice (some ⟨b, off, none⟩) xs.length c] 26)
            have x4 := x1.alloc (.cells #[.int .i64 (m : Int), .int .i64 (k : Int), .slice (some ⟨b, off, none⟩) xs.length c] 26)
            have r4 := r1.alloc (.cells #[.int .i64 (m : Int), .int .i64 (k : Int), .slice (some ⟨b, off, none⟩) xs.length c] 26)
            have R4 := R1.alloc (Nat.le_trans hB hwz) (.cells #[.int .i64 (m : Int), .int .i64 (k : Int), .slice (some ⟨b, off, none⟩) xs.length c] 26)
            have ho4 := ho.alloc (.cells #[.int .i64 (m : Int), .int .i64 (k : Int), .slice (some ⟨b, off, none⟩) xs.length c] 26)
            have HB4 := Lib.hid (HB.out.alloc hwz (.cells #[.int .i64 (m : Int), .int .i64 (k : Int), .slice (some ⟨b, off, none⟩) xs.length c] 26))
            clear y10 y11 y12 x10 x11 x12 y1 x1 r1 R1 ho HB
            obtain ⟨w4, hw4⟩ : ∃ w4, w4 = wr.alloc (.cells #[.int .i64 (m : Int), .int .i64 (k : Int), .slice (some ⟨b, off, none⟩) xs.length c] 26) := ⟨_, rfl⟩
            rw [← hw4] at y4 x4 r4 R4 ho4 HB4 ⊢
            clear hw4
            have hB4 : B ≤ w4.heap.size := Nat.le_trans hB HB4.out.size
            refine (l2Put_any M K m k g 0 c' w4.heap.size b off c B 0 Q zs xs w4 ho4.rd R4 (Nat.le_refl _) hB4 hM8 hK8 m1 hzl hl hMK64 hmk64 hz1 hRK hQM).mono ?_
            rintro e w5 ⟨A5, c5, rfl, own5, hb5⟩
            have hws : w.heap.size ≤ w4.heap.size := HB4.out.size
            have y5 := y4.all hb5
            have x5 := x4.all hb5
            have r5 := r4.all hb5
            have R5 := R4.all hb5 (Nat.le_trans hB hws)
            have HB5 := Lib.hid (HB4.out.trans (hb5.mono hws))
            obtain ⟨g5, rfl, hg51, hg52⟩ := own5.some_ (by rw [putL_len]; have : 1 * 1 ≤ K * M := Nat.mul_le_mul hK1 hM1; omega)
            replace own5 := own5.mono hws
            have y50 := y5.cell 0
            have y51 := y5.cell 1
            have y52 := y5.cell 2
            have z50 := y5.frozen 0
            have z51 := y5.frozen 1
            have z52 := y5.frozen 2
            have hz5 := y5.lt
            clear hb5 y4 x4 r4 R4 HB4 ho4
            obtain ⟨ps, hps⟩ : ∃ ps, ps = putL M K m k zs xs 0 Q := ⟨_, rfl⟩
            have HNP := Lib.hid (show TileTo m k a 1 (mirF m xs) 0 (j + 1) ps by rw [hps]; exact HN.out)
            rw [← hps] at own5 ⊢
            clear hps
            go_wp2_with fail
            have hyx : w.heap.size ≠ w2.heap.size := by omega
            have hyr : w.heap.size + 1 ≠ w2.heap.size := by omega
            have hne := row_ne' own5.1 y5 (by decide)
            have own6 := ((own5.far (a := ⟨w2.heap.size, 0, none⟩) hne (.int .i64 (M : Int))).far (a := ⟨w2.heap.size, 1, none⟩) hne (.int .i64 (K : Int))).far (a := ⟨w2.heap.size, 2, none⟩) hne (.slice (some ⟨g5, 0, none⟩) ps.length c5)
            have y6 := y5.put3 (a' := .int .i64 (M : Int)) (b' := .int .i64 (K : Int)) (c' := .slice (some ⟨g5, 0, none⟩) ps.length c5)
            have x6 := x5.far3 (a' := .int .i64 (M : Int)) (b' := .int .i64 (K : Int)) (c' := .slice (some ⟨g5, 0, none⟩) ps.length c5) hyx
            have r6 := r5.far3 (a' := .int .i64 (M : Int)) (b' := .int .i64 (K : Int)) (c' := .slice (some ⟨g5, 0, none⟩) ps.length c5) hyr
            have R6 := R5.keep (w' := ((w5.setCell ⟨w2.heap.size, 0, none⟩ (.int .i64 (M : Int))).setCell ⟨w2.heap.size, 1, none⟩ (.int .i64 (K : Int))).setCell ⟨w2.heap.size, 2, none⟩ (.slice (some ⟨g5, 0, none⟩) ps.length c5)) (fun bb oo hbb => by rw [World.cell?_setCell_far _ _ _ _ (by simp; omega), World.cell?_setCell_far _ _ _ _ (by simp; omega), World.cell?_setCell_far _ _ _ _ (by simp; omega)])
            have HB6 := Lib.hid (((HB5.out.setCell (p := ⟨w2.heap.size, 0, none⟩) (by simp; omega) (.int .i64 (M : Int))).setCell (p := ⟨w2.heap.size, 1, none⟩) (by simp; omega) (.int .i64 (K : Int))).setCell (p := ⟨w2.heap.size, 2, none⟩) (by simp; omega) (.slice (some ⟨g5, 0, none⟩) ps.length c5))
            go_roundw
            case rel => exact ⟨j + 1, g5, c5, ps, by omega, by go_num, HNP, own6, y6, x6, r6, R6, HB6⟩
            case measure => simp [intOf]; omega
        · obtain rfl : j = a := by omega
          have hzy : zs = ys := (tile_end (tile_row HT.out)).trans HYS.out.symm
          subst hzy
          have y10 := y1.cell 0
          have y11 := y1.cell 1
          have y12 := y1.cell 2
          have g0 := r1.cell 0
          have g1 := r1.cell 1
          have g2 := r1.cell 2
          have z0 := r1.frozen 0
          have z1 := r1.frozen 1
          have z2 := r1.frozen 2
          have F := fin3 (p := w.heap.size + 1) (a := .int .i64 (M : Int)) (b := .int .i64 (K : Int)) (c := .slice (some ⟨g, 0, none⟩) zs.length c') ho (row_ne' ho.1 r1 (by decide)) HB.out (by omega)
          go_wp2
          exact bodyPost_ret (v := .tuple #[chartV (M : Int) (K : Int) (.slice (some ⟨g, 0, none⟩) zs.length c'), .bool true]) (by simp [results, Try.results15, go_sem, g0, g1, g2]) rfl ⟨_, _, by rfl, F.1, F.2⟩
  · have hno : mirAll W H xs a = false := by unfold mirAll; rw [not_false h]; rfl
    have hX : mirX W H xs a = [] := by unfold mirX; rw [hno]; rfl
    rw [hX, hno]
    rcases mir_no h with hg | ⟨hg, ha⟩
    all_goals
      go_enter Try.func15, Try.ntmps15
      go_wp2_with fail
      refine (l2Good_any W H A n c B xs _ h'.out (by simp; omega)).mono ?_
      rintro e w1 ⟨rfl, hb⟩
      have r1 := (r0.all hb).at_ (q := w.heap.size + 1) (by simp)
      have HB := Lib.hid (hb0.out.trans (hb.mono (by simp; omega)))
      have g0 := r1.cell 0
      have g1 := r1.cell 1
      have g2 := r1.cell 2
      have z0 := r1.frozen 0
      have z1 := r1.frozen 1
      have z2 := r1.frozen 2
      clear hb r0
      rw [hg]
      go_wp2_with (go_at_call 41; (with_reducible refine (l6Times_any _ _).mono ?_); rintro e w' ⟨rfl, rfl⟩)
      have F := fin3 (p := w.heap.size + 1) (a := .int .i64 0) (b := .int .i64 0) (c := .slice none 0 0) (Own.nil w1 w.heap.size) (by simp [Value.ownBlock]) HB.out (by omega)
      exact bodyPost_ret (v := .tuple #[chartV 0 0 (.slice none 0 0), .bool false]) (by simp [results, Try.results15, go_sem, g0, g1, g2]) rfl ⟨none, 0, rfl, F.1, F.2⟩
end Go.Proofs.Ytimindgefceibaa
