/- The walks of the program's movedBy and the model's l4Move: a chart after a symmetry. Condition: sides of at most 8. -/
import Derived.Test.YtpmhnklmhfadlaaMirrored
import Derived.Test.YtpmhnklmhfadlaaBoth
namespace Go.Proofs.Ytpmhnklmhfadlaa
open Go.RowKit

section
variable {w w' : World} {p q B lo : Nat} {t : TypeId} {a b c a' b' c' v : Value} {cs : Array Value} {xs : List Int}
theorem Blk.put3 (h : Blk w p t #[a, b, c]) : Blk (((w.setCell ⟨p, 0, none⟩ a').setCell ⟨p, 1, none⟩ b').setCell ⟨p, 2, none⟩ c') p t #[a', b', c'] := by
  have := ((h.set_ 0 a').set_ 1 b').set_ 2 c'
  simpa using this
theorem Blk.far3 (h : Blk w q t cs) (hp : q ≠ p) : Blk (((w.setCell ⟨p, 0, none⟩ a').setCell ⟨p, 1, none⟩ b').setCell ⟨p, 2, none⟩ c') q t cs :=
  ((h.far (a := ⟨p, 0, none⟩) hp _).far (a := ⟨p, 1, none⟩) hp _).far (a := ⟨p, 2, none⟩) hp _
end
theorem rem4n (s : Nat) : Int.tmod (s : Int) 4 = ((s % 4 : Nat) : Int) := by rw [rem4 (by omega)]; omega
set_option maxRecDepth 100000 in
set_option maxHeartbeats 4000000 in
theorem movedBy_any (m k b off cc B s : Nat) (xs : List Int) (w : World) (hR : Rd w B (some ⟨b, off, none⟩) xs.length cc xs) (hB : B ≤ w.heap.size) (hok : (⟨m, k, xs⟩ : Pic).Ok) (hs7 : s ≤ 7) :
    Calls Try.prog 76 #[chartV m k (.slice (some ⟨b, off, none⟩) xs.length cc), .int .i64 s] w (OwnChart w ((⟨m, k, xs⟩ : Pic).move s).m ((⟨m, k, xs⟩ : Pic).move s).k ((⟨m, k, xs⟩ : Pic).move s).xs) := by
  have hb0 := Lib.hid (((Below.refl w.heap.size w).alloc (Nat.le_refl _) (.cells #[.int .i64 m, .int .i64 k, .slice (some ⟨b, off, none⟩) xs.length cc] 26)).alloc (by simp) (.cells #[.int .i64 0, .int .i64 0, .slice none 0 0] 26))
  have h' := Lib.hid ((hR.alloc hB (.cells #[.int .i64 m, .int .i64 k, .slice (some ⟨b, off, none⟩) xs.length cc] 26)).alloc (by simp; omega) (.cells #[.int .i64 0, .int .i64 0, .slice none 0 0] 26))
  have r0 := (Blk.new (w.alloc (.cells #[.int .i64 m, .int .i64 k, .slice (some ⟨b, off, none⟩) xs.length cc] 26)) #[.int .i64 0, .int .i64 0, .slice none 0 0] 26)
  have hr := rem4n s
  obtain ⟨hx64, hl1⟩ : xs.length ≤ 64 ∧ 1 ≤ xs.length := hok.len
  clear hR
  by_cases h4 : 4 ≤ s
  · have HM := Lib.hid (show (⟨m, k, xs⟩ : Pic).move s = ((⟨m, k, xs⟩ : Pic).mirror).turns (s % 4) by unfold Pic.move; rw [if_pos h4])
    have hd : decide (4 ≤ (s : Int)) = true := by simp; omega
    have h4i : 4 ≤ (s : Int) := by omega
    clear h4
    rw [HM.out]
    go_enter Try.func76, Try.ntmps76
    go_wp2_with fail
    refine (copyChart_any m k _ _ cc B xs _ h'.out (by simp; omega) (by omega)).mono ?_
    rintro e w1 ⟨A', c', rfl, own, hb⟩
    obtain ⟨g, rfl, hg1, hg2⟩ := own.some_ (by omega)
    have r1 := (r0.all hb).at_ (q := w.heap.size + 1) (by simp)
    have HB := Lib.hid (hb0.out.trans (hb.mono (by simp; omega)))
    have hs1 : w.heap.size + 2 ≤ w1.heap.size := by have := hb.size; simp at this; omega
    replace own := own.mono (show w.heap.size ≤ _ by simp; omega)
    clear hb r0 h' hg1 hb0
    have own0 := own.alloc (.cells #[.int .i64 m, .int .i64 k, .slice (some ⟨g, 0, none⟩) xs.length c'] 26)
    have r2 := r1.alloc (.cells #[.int .i64 m, .int .i64 k, .slice (some ⟨g, 0, none⟩) xs.length c'] 26)
    have x2 := Blk.new w1 #[.int .i64 m, .int .i64 k, .slice (some ⟨g, 0, none⟩) xs.length c'] 26
    have HB2 := Lib.hid (HB.out.alloc (by omega) (.cells #[.int .i64 m, .int .i64 k, .slice (some ⟨g, 0, none⟩) xs.length c'] 26))
    have hz2 : w.heap.size ≤ (w1.alloc (.cells #[.int .i64 m, .int .i64 k, .slice (some ⟨g, 0, none⟩) xs.length c'] 26)).heap.size := by simp; omega
    go_wp2_with (go_at_call 96; (with_reducible refine (isMirroring_any _ _).mono ?_); rintro e w' ⟨rfl, rfl⟩)
    refine (mirrored_any m k g 0 c' _ xs _ own0.rd (Nat.le_refl _) hok.1 hok.2.1 hok.2.2.1 hok.2.2.2.1 (Lib.hid hok.2.2.2.2) (Nat.mul_le_mul hok.2.1 hok.2.2.2.1) hl1).mono ?_
    rintro e w3 ⟨A3, c3, rfl, own3, hb⟩
    obtain ⟨g3, rfl, hg3, hg4⟩ := own3.some_ (by rw [mirrorL_len, Nat.mul_comm, ← hok.2.2.2.2]; exact hl1)
    have r3 := r2.all hb
    have x3 := x2.all hb
    have HB3 := Lib.hid (HB2.out.trans (hb.mono hz2))
    replace own3 := own3.mono hz2
    have z0 := x3.frozen 0
    have z1 := x3.frozen 1
    have z2 := x3.frozen 2
    have e0 := x3.cell 0
    have e1 := x3.cell 1
    have e2 := x3.cell 2
    have hs3 := x3.lt
    clear hb own own0 r1 r2 x2 HB HB2
    go_wp2
    go_loopw [14] (fun i wr => ∃ (t : Nat) (p : Pic) (gp cp : Nat), t ≤ s % 4 ∧ i = .int .i64 t ∧ Hid (p = ((⟨m, k, xs⟩ : Pic).mirror).turns t) ∧ p.Ok ∧ Own wr w.heap.size (.slice (some ⟨gp, 0, none⟩) p.xs.length cp) p.xs ∧
        Blk wr (w.heap.size + 1) 26 #[.int .i64 0, .int .i64 0, .slice none 0 0] ∧ Blk wr w1.heap.size 26 #[.int .i64 p.m, .int .i64 p.k, .slice (some ⟨gp, 0, none⟩) p.xs.length cp] ∧ Below w.heap.size w wr)
      (fun i _ => s % 4 - (intOf i).toNat)
    case atStart => exact ⟨0, (⟨m, k, xs⟩ : Pic).mirror, g3, c3, Nat.zero_le _, rfl, Lib.hid rfl, hok.mirror, ((own3.far (a := ⟨w1.heap.size, 0, none⟩) (row_ne' own3.1 x3 (by decide)) _).far (a := ⟨w1.heap.size, 1, none⟩) (row_ne' own3.1 x3 (by decide)) _).far (a := ⟨w1.heap.size, 2, none⟩) (row_ne' own3.1 x3 (by decide)) _, r3.far3 (by omega), x3.put3, ((HB3.out.setCell (p := ⟨w1.heap.size, 0, none⟩) (by show _ ≤ w1.heap.size; omega) _).setCell (p := ⟨w1.heap.size, 1, none⟩) (by show _ ≤ w1.heap.size; omega) _).setCell (p := ⟨w1.heap.size, 2, none⟩) (by show _ ≤ w1.heap.size; omega) _⟩
    case round =>
      obtain ⟨t, p, gp, cp, ht, rfl, HP, hpok, ho, r5, x5, hbl⟩ := hrel
      have HB5 := Lib.hid hbl
      have hz5 : w.heap.size ≤ wr.heap.size := hbl.size
      have hs5 := x5.lt
      have e0 := x5.cell 0
      have e1 := x5.cell 1
      have e2 := x5.cell 2
      clear hbl
      by_cases hlt : t < s % 4
      · obtain ⟨pm1, pm8, pk1, pk8, pl⟩ := hpok
        have HPL := Lib.hid pl
        have hp64 : p.m * p.k ≤ 64 := Nat.mul_le_mul pm8 pk8
        have hp1 : 1 * 1 ≤ p.m * p.k := Nat.mul_le_mul pm1 pk1
        clear pl
        go_wp2_with fail
        refine (turned_any p.m p.k gp 0 cp _ p.xs _ ho.rd (Nat.le_refl _) pm1 pm8 pk8 HPL hp64).mono ?_
        rintro e w6 ⟨A6, c6, rfl, own6, hb⟩
        obtain ⟨g6, rfl, hg6, hg7⟩ := own6.some_ (by rw [turnL_len]; omega)
        have r6 := r5.all hb
        have x6 := x5.all hb
        have HB6 := Lib.hid (HB5.out.trans (hb.mono hz5))
        replace own6 := own6.mono hz5
        have z0 := x6.frozen 0
        have z1 := x6.frozen 1
        have z2 := x6.frozen 2
        have f0 := x6.cell 0
        have f1 := x6.cell 1
        have f2 := x6.cell 2
        clear hb ho r5 x5 HB5 e0 e1 e2
        go_wp2
        go_roundw
        case rel => exact ⟨t + 1, p.turn, g6, c6, by omega, by go_num, Lib.hid (by rw [HP.out]; rfl), (show p.Ok from ⟨pm1, pm8, pk1, pk8, HPL.out⟩).turn, ((own6.far (a := ⟨w1.heap.size, 0, none⟩) (row_ne' own6.1 x6 (by decide)) _).far (a := ⟨w1.heap.size, 1, none⟩) (row_ne' own6.1 x6 (by decide)) _).far (a := ⟨w1.heap.size, 2, none⟩) (row_ne' own6.1 x6 (by decide)) _, r6.far3 (by omega), x6.put3, ((HB6.out.setCell (p := ⟨w1.heap.size, 0, none⟩) (by show _ ≤ w1.heap.size; omega) _).setCell (p := ⟨w1.heap.size, 1, none⟩) (by show _ ≤ w1.heap.size; omega) _).setCell (p := ⟨w1.heap.size, 2, none⟩) (by show _ ≤ w1.heap.size; omega) _⟩
        case measure => simp [intOf]; omega
      · obtain rfl : t = s % 4 := by omega
        have g0 := r5.cell 0
        have g1 := r5.cell 1
        have g2 := r5.cell 2
        have z0 := r5.frozen 0
        have z1 := r5.frozen 1
        have z2 := r5.frozen 2
        have F := fin3 (p := w.heap.size + 1) (a := .int .i64 p.m) (b := .int .i64 p.k) (c := .slice (some ⟨gp, 0, none⟩) p.xs.length cp) ho (row_ne' ho.1 r5 (by decide)) HB5.out (by omega)
        go_wp2
        rw [← HP.out]
        exact bodyPost_ret (v := chartV p.m p.k (.slice (some ⟨gp, 0, none⟩) p.xs.length cp)) (by simp [results, Try.results76, go_sem, g0, g1, g2]) rfl ⟨_, cp, rfl, F.1, F.2⟩
  · have HM := Lib.hid (show (⟨m, k, xs⟩ : Pic).move s = ((⟨m, k, xs⟩ : Pic)).turns (s % 4) by unfold Pic.move; rw [if_neg h4])
    have hd : decide (4 ≤ (s : Int)) = false := by simp; omega
    have h4i : (s : Int) < 4 := by omega
    clear h4
    rw [HM.out]
    go_enter Try.func76, Try.ntmps76
    go_wp2_with fail
    refine (copyChart_any m k _ _ cc B xs _ h'.out (by simp; omega) (by omega)).mono ?_
    rintro e w1 ⟨A', c', rfl, own, hb⟩
    obtain ⟨g, rfl, hg1, hg2⟩ := own.some_ (by omega)
    have r1 := (r0.all hb).at_ (q := w.heap.size + 1) (by simp)
    have HB := Lib.hid (hb0.out.trans (hb.mono (by simp; omega)))
    have hs1 : w.heap.size + 2 ≤ w1.heap.size := by have := hb.size; simp at this; omega
    replace own := own.mono (show w.heap.size ≤ _ by simp; omega)
    clear hb r0 h' hg1 hb0
    have own0 := own.alloc (.cells #[.int .i64 m, .int .i64 k, .slice (some ⟨g, 0, none⟩) xs.length c'] 26)
    have r2 := r1.alloc (.cells #[.int .i64 m, .int .i64 k, .slice (some ⟨g, 0, none⟩) xs.length c'] 26)
    have x2 := Blk.new w1 #[.int .i64 m, .int .i64 k, .slice (some ⟨g, 0, none⟩) xs.length c'] 26
    have HB2 := Lib.hid (HB.out.alloc (by omega) (.cells #[.int .i64 m, .int .i64 k, .slice (some ⟨g, 0, none⟩) xs.length c'] 26))
    have hz2 : w.heap.size ≤ (w1.alloc (.cells #[.int .i64 m, .int .i64 k, .slice (some ⟨g, 0, none⟩) xs.length c'] 26)).heap.size := by simp; omega
    go_wp2_with (go_at_call 96; (with_reducible refine (isMirroring_any _ _).mono ?_); rintro e w' ⟨rfl, rfl⟩)
    go_loopw [14] (fun i wr => ∃ (t : Nat) (p : Pic) (gp cp : Nat), t ≤ s % 4 ∧ i = .int .i64 t ∧ Hid (p = ((⟨m, k, xs⟩ : Pic)).turns t) ∧ p.Ok ∧ Own wr w.heap.size (.slice (some ⟨gp, 0, none⟩) p.xs.length cp) p.xs ∧
        Blk wr (w.heap.size + 1) 26 #[.int .i64 0, .int .i64 0, .slice none 0 0] ∧ Blk wr w1.heap.size 26 #[.int .i64 p.m, .int .i64 p.k, .slice (some ⟨gp, 0, none⟩) p.xs.length cp] ∧ Below w.heap.size w wr)
      (fun i _ => s % 4 - (intOf i).toNat)
    case atStart => exact ⟨0, (⟨m, k, xs⟩ : Pic), g, c', Nat.zero_le _, rfl, Lib.hid rfl, hok, own0, r2, x2, HB2.out⟩
    case round =>
      obtain ⟨t, p, gp, cp, ht, rfl, HP, hpok, ho, r5, x5, hbl⟩ := hrel
      have HB5 := Lib.hid hbl
      have hz5 : w.heap.size ≤ wr.heap.size := hbl.size
      have hs5 := x5.lt
      have e0 := x5.cell 0
      have e1 := x5.cell 1
      have e2 := x5.cell 2
      clear hbl
      by_cases hlt : t < s % 4
      · obtain ⟨pm1, pm8, pk1, pk8, pl⟩ := hpok
        have HPL := Lib.hid pl
        have hp64 : p.m * p.k ≤ 64 := Nat.mul_le_mul pm8 pk8
        have hp1 : 1 * 1 ≤ p.m * p.k := Nat.mul_le_mul pm1 pk1
        clear pl
        go_wp2_with fail
        refine (turned_any p.m p.k gp 0 cp _ p.xs _ ho.rd (Nat.le_refl _) pm1 pm8 pk8 HPL hp64).mono ?_
        rintro e w6 ⟨A6, c6, rfl, own6, hb⟩
        obtain ⟨g6, rfl, hg6, hg7⟩ := own6.some_ (by rw [turnL_len]; omega)
        have r6 := r5.all hb
        have x6 := x5.all hb
        have HB6 := Lib.hid (HB5.out.trans (hb.mono hz5))
        replace own6 := own6.mono hz5
        have z0 := x6.frozen 0
        have z1 := x6.frozen 1
        have z2 := x6.frozen 2
        have f0 := x6.cell 0
        have f1 := x6.cell 1
        have f2 := x6.cell 2
        clear hb ho r5 x5 HB5 e0 e1 e2
        go_wp2
        go_roundw
        case rel => exact ⟨t + 1, p.turn, g6, c6, by omega, by go_num, Lib.hid (by rw [HP.out]; rfl), (show p.Ok from ⟨pm1, pm8, pk1, pk8, HPL.out⟩).turn, ((own6.far (a := ⟨w1.heap.size, 0, none⟩) (row_ne' own6.1 x6 (by decide)) _).far (a := ⟨w1.heap.size, 1, none⟩) (row_ne' own6.1 x6 (by decide)) _).far (a := ⟨w1.heap.size, 2, none⟩) (row_ne' own6.1 x6 (by decide)) _, r6.far3 (by omega), x6.put3, ((HB6.out.setCell (p := ⟨w1.heap.size, 0, none⟩) (by show _ ≤ w1.heap.size; omega) _).setCell (p := ⟨w1.heap.size, 1, none⟩) (by show _ ≤ w1.heap.size; omega) _).setCell (p := ⟨w1.heap.size, 2, none⟩) (by show _ ≤ w1.heap.size; omega) _⟩
        case measure => simp [intOf]; omega
      · obtain rfl : t = s % 4 := by omega
        have g0 := r5.cell 0
        have g1 := r5.cell 1
        have g2 := r5.cell 2
        have z0 := r5.frozen 0
        have z1 := r5.frozen 1
        have z2 := r5.frozen 2
        have F := fin3 (p := w.heap.size + 1) (a := .int .i64 p.m) (b := .int .i64 p.k) (c := .slice (some ⟨gp, 0, none⟩) p.xs.length cp) ho (row_ne' ho.1 r5 (by decide)) HB5.out (by omega)
        go_wp2
        rw [← HP.out]
        exact bodyPost_ret (v := chartV p.m p.k (.slice (some ⟨gp, 0, none⟩) p.xs.length cp)) (by simp [results, Try.results76, go_sem, g0, g1, g2]) rfl ⟨_, cp, rfl, F.1, F.2⟩
set_option maxRecDepth 100000 in
set_option maxHeartbeats 4000000 in
theorem l4Move_any (m k b off cc B s : Nat) (xs : List Int) (w : World) (hR : Rd w B (some ⟨b, off, none⟩) xs.length cc xs) (hB : B ≤ w.heap.size) (hok : (⟨m, k, xs⟩ : Pic).Ok) (hs7 : s ≤ 7) :
    Calls Try.prog 51 #[chartV m k (.slice (some ⟨b, off, none⟩) xs.length cc), .int .i64 s] w (OwnChart w ((⟨m, k, xs⟩ : Pic).move s).m ((⟨m, k, xs⟩ : Pic).move s).k ((⟨m, k, xs⟩ : Pic).move s).xs) := by
  have hb0 := Lib.hid (((Below.refl w.heap.size w).alloc (Nat.le_refl _) (.cells #[.int .i64 m, .int .i64 k, .slice (some ⟨b, off, none⟩) xs.length cc] 26)).alloc (by simp) (.cells #[.int .i64 0, .int .i64 0, .slice none 0 0] 26))
  have h' := Lib.hid ((hR.alloc hB (.cells #[.int .i64 m, .int .i64 k, .slice (some ⟨b, off, none⟩) xs.length cc] 26)).alloc (by simp; omega) (.cells #[.int .i64 0, .int .i64 0, .slice none 0 0] 26))
  have r0 := (Blk.new (w.alloc (.cells #[.int .i64 m, .int .i64 k, .slice (some ⟨b, off, none⟩) xs.length cc] 26)) #[.int .i64 0, .int .i64 0, .slice none 0 0] 26)
  have hr := rem4n s
  obtain ⟨hx64, hl1⟩ : xs.length ≤ 64 ∧ 1 ≤ xs.length := hok.len
  clear hR
  by_cases h4 : 4 ≤ s
  · have HM := Lib.hid (show (⟨m, k, xs⟩ : Pic).move s = ((⟨m, k, xs⟩ : Pic).mirror).turns (s % 4) by unfold Pic.move; rw [if_pos h4])
    have hd : decide (4 ≤ (s : Int)) = true := by simp; omega
    have h4i : 4 ≤ (s : Int) := by omega
    clear h4
    rw [HM.out]
    go_enter Try.func51, Try.ntmps51
    go_wp2_with fail
    refine (l2Own_any m k _ _ cc B xs _ h'.out (by simp; omega) (by omega)).mono ?_
    rintro e w1 ⟨A', c', rfl, own, hb⟩
    obtain ⟨g, rfl, hg1, hg2⟩ := own.some_ (by omega)
    have r1 := (r0.all hb).at_ (q := w.heap.size + 1) (by simp)
    have HB := Lib.hid (hb0.out.trans (hb.mono (by simp; omega)))
    have hs1 : w.heap.size + 2 ≤ w1.heap.size := by have := hb.size; simp at this; omega
    replace own := own.mono (show w.heap.size ≤ _ by simp; omega)
    clear hb r0 h' hg1 hb0
    have own0 := own.alloc (.cells #[.int .i64 m, .int .i64 k, .slice (some ⟨g, 0, none⟩) xs.length c'] 26)
    have r2 := r1.alloc (.cells #[.int .i64 m, .int .i64 k, .slice (some ⟨g, 0, none⟩) xs.length c'] 26)
    have x2 := Blk.new w1 #[.int .i64 m, .int .i64 k, .slice (some ⟨g, 0, none⟩) xs.length c'] 26
    have HB2 := Lib.hid (HB.out.alloc (by omega) (.cells #[.int .i64 m, .int .i64 k, .slice (some ⟨g, 0, none⟩) xs.length c'] 26))
    have hz2 : w.heap.size ≤ (w1.alloc (.cells #[.int .i64 m, .int .i64 k, .slice (some ⟨g, 0, none⟩) xs.length c'] 26)).heap.size := by simp; omega
    go_wp2_with fail
    refine (l4Mirror_any m k g 0 c' _ xs _ own0.rd (Nat.le_refl _) hok.2.1 hok.2.2.2.1 (Lib.hid hok.2.2.2.2) (Nat.mul_le_mul hok.2.1 hok.2.2.2.1)).mono ?_
    rintro e w3 ⟨A3, c3, rfl, own3, hb⟩
    obtain ⟨g3, rfl, hg3, hg4⟩ := own3.some_ (by rw [mirrorL_len, Nat.mul_comm, ← hok.2.2.2.2]; exact hl1)
    have r3 := r2.all hb
    have x3 := x2.all hb
    have HB3 := Lib.hid (HB2.out.trans (hb.mono hz2))
    replace own3 := own3.mono hz2
    have z0 := x3.frozen 0
    have z1 := x3.frozen 1
    have z2 := x3.frozen 2
    have e0 := x3.cell 0
    have e1 := x3.cell 1
    have e2 := x3.cell 2
    have hs3 := x3.lt
    clear hb own own0 r1 r2 x2 HB HB2
    go_wp2
    go_loopw [6] (fun i wr => ∃ (t : Nat) (p : Pic) (gp cp : Nat), t ≤ s % 4 ∧ i = .int .i64 t ∧ Hid (p = ((⟨m, k, xs⟩ : Pic).mirror).turns t) ∧ p.Ok ∧ Own wr w.heap.size (.slice (some ⟨gp, 0, none⟩) p.xs.length cp) p.xs ∧
        Blk wr (w.heap.size + 1) 26 #[.int .i64 0, .int .i64 0, .slice none 0 0] ∧ Blk wr w1.heap.size 26 #[.int .i64 p.m, .int .i64 p.k, .slice (some ⟨gp, 0, none⟩) p.xs.length cp] ∧ Below w.heap.size w wr)
      (fun i _ => s % 4 - (intOf i).toNat)
    case atStart => exact ⟨0, (⟨m, k, xs⟩ : Pic).mirror, g3, c3, Nat.zero_le _, rfl, Lib.hid rfl, hok.mirror, ((own3.far (a := ⟨w1.heap.size, 0, none⟩) (row_ne' own3.1 x3 (by decide)) _).far (a := ⟨w1.heap.size, 1, none⟩) (row_ne' own3.1 x3 (by decide)) _).far (a := ⟨w1.heap.size, 2, none⟩) (row_ne' own3.1 x3 (by decide)) _, r3.far3 (by omega), x3.put3, ((HB3.out.setCell (p := ⟨w1.heap.size, 0, none⟩) (by show _ ≤ w1.heap.size; omega) _).setCell (p := ⟨w1.heap.size, 1, none⟩) (by show _ ≤ w1.heap.size; omega) _).setCell (p := ⟨w1.heap.size, 2, none⟩) (by show _ ≤ w1.heap.size; omega) _⟩
    case round =>
      obtain ⟨t, p, gp, cp, ht, rfl, HP, hpok, ho, r5, x5, hbl⟩ := hrel
      have HB5 := Lib.hid hbl
      have hz5 : w.heap.size ≤ wr.heap.size := hbl.size
      have hs5 := x5.lt
      have e0 := x5.cell 0
      have e1 := x5.cell 1
      have e2 := x5.cell 2
      clear hbl
      by_cases hlt : t < s % 4
      · obtain ⟨pm1, pm8, pk1, pk8, pl⟩ := hpok
        have HPL := Lib.hid pl
        have hp64 : p.m * p.k ≤ 64 := Nat.mul_le_mul pm8 pk8
        have hp1 : 1 * 1 ≤ p.m * p.k := Nat.mul_le_mul pm1 pk1
        clear pl
        go_wp2_with fail
        refine (l4Turn_any p.m p.k gp 0 cp _ p.xs _ ho.rd (Nat.le_refl _) pm8 pk8 HPL hp64).mono ?_
        rintro e w6 ⟨A6, c6, rfl, own6, hb⟩
        obtain ⟨g6, rfl, hg6, hg7⟩ := own6.some_ (by rw [turnL_len]; omega)
        have r6 := r5.all hb
        have x6 := x5.all hb
        have HB6 := Lib.hid (HB5.out.trans (hb.mono hz5))
        replace own6 := own6.mono hz5
        have z0 := x6.frozen 0
        have z1 := x6.frozen 1
        have z2 := x6.frozen 2
        have f0 := x6.cell 0
        have f1 := x6.cell 1
        have f2 := x6.cell 2
        clear hb ho r5 x5 HB5 e0 e1 e2
        go_wp2
        go_roundw
        case rel => exact ⟨t + 1, p.turn, g6, c6, by omega, by go_num, Lib.hid (by rw [HP.out]; rfl), (show p.Ok from ⟨pm1, pm8, pk1, pk8, HPL.out⟩).turn, ((own6.far (a := ⟨w1.heap.size, 0, none⟩) (row_ne' own6.1 x6 (by decide)) _).far (a := ⟨w1.heap.size, 1, none⟩) (row_ne' own6.1 x6 (by decide)) _).far (a := ⟨w1.heap.size, 2, none⟩) (row_ne' own6.1 x6 (by decide)) _, r6.far3 (by omega), x6.put3, ((HB6.out.setCell (p := ⟨w1.heap.size, 0, none⟩) (by show _ ≤ w1.heap.size; omega) _).setCell (p := ⟨w1.heap.size, 1, none⟩) (by show _ ≤ w1.heap.size; omega) _).setCell (p := ⟨w1.heap.size, 2, none⟩) (by show _ ≤ w1.heap.size; omega) _⟩
        case measure => simp [intOf]; omega
      · obtain rfl : t = s % 4 := by omega
        have g0 := r5.cell 0
        have g1 := r5.cell 1
        have g2 := r5.cell 2
        have z0 := r5.frozen 0
        have z1 := r5.frozen 1
        have z2 := r5.frozen 2
        have F := fin3 (p := w.heap.size + 1) (a := .int .i64 p.m) (b := .int .i64 p.k) (c := .slice (some ⟨gp, 0, none⟩) p.xs.length cp) ho (row_ne' ho.1 r5 (by decide)) HB5.out (by omega)
        go_wp2
        rw [← HP.out]
        exact bodyPost_ret (v := chartV p.m p.k (.slice (some ⟨gp, 0, none⟩) p.xs.length cp)) (by simp [results, Try.results51, go_sem, g0, g1, g2]) rfl ⟨_, cp, rfl, F.1, F.2⟩
  · have HM := Lib.hid (show (⟨m, k, xs⟩ : Pic).move s = ((⟨m, k, xs⟩ : Pic)).turns (s % 4) by unfold Pic.move; rw [if_neg h4])
    have hd : decide (4 ≤ (s : Int)) = false := by simp; omega
    have h4i : (s : Int) < 4 := by omega
    clear h4
    rw [HM.out]
    go_enter Try.func51, Try.ntmps51
    go_wp2_with fail
    refine (l2Own_any m k _ _ cc B xs _ h'.out (by simp; omega) (by omega)).mono ?_
    rintro e w1 ⟨A', c', rfl, own, hb⟩
    obtain ⟨g, rfl, hg1, hg2⟩ := own.some_ (by omega)
    have r1 := (r0.all hb).at_ (q := w.heap.size + 1) (by simp)
    have HB := Lib.hid (hb0.out.trans (hb.mono (by simp; omega)))
    have hs1 : w.heap.size + 2 ≤ w1.heap.size := by have := hb.size; simp at this; omega
    replace own := own.mono (show w.heap.size ≤ _ by simp; omega)
    clear hb r0 h' hg1 hb0
    have own0 := own.alloc (.cells #[.int .i64 m, .int .i64 k, .slice (some ⟨g, 0, none⟩) xs.length c'] 26)
    have r2 := r1.alloc (.cells #[.int .i64 m, .int .i64 k, .slice (some ⟨g, 0, none⟩) xs.length c'] 26)
    have x2 := Blk.new w1 #[.int .i64 m, .int .i64 k, .slice (some ⟨g, 0, none⟩) xs.length c'] 26
    have HB2 := Lib.hid (HB.out.alloc (by omega) (.cells #[.int .i64 m, .int .i64 k, .slice (some ⟨g, 0, none⟩) xs.length c'] 26))
    have hz2 : w.heap.size ≤ (w1.alloc (.cells #[.int .i64 m, .int .i64 k, .slice (some ⟨g, 0, none⟩) xs.length c'] 26)).heap.size := by simp; omega
    go_wp2
    go_loopw [6] (fun i wr => ∃ (t : Nat) (p : Pic) (gp cp : Nat), t ≤ s % 4 ∧ i = .int .i64 t ∧ Hid (p = ((⟨m, k, xs⟩ : Pic)).turns t) ∧ p.Ok ∧ Own wr w.heap.size (.slice (some ⟨gp, 0, none⟩) p.xs.length cp) p.xs ∧
        Blk wr (w.heap.size + 1) 26 #[.int .i64 0, .int .i64 0, .slice none 0 0] ∧ Blk wr w1.heap.size 26 #[.int .i64 p.m, .int .i64 p.k, .slice (some ⟨gp, 0, none⟩) p.xs.length cp] ∧ Below w.heap.size w wr)
      (fun i _ => s % 4 - (intOf i).toNat)
    case atStart => exact ⟨0, (⟨m, k, xs⟩ : Pic), g, c', Nat.zero_le _, rfl, Lib.hid rfl, hok, own0, r2, x2, HB2.out⟩
    case round =>
      obtain ⟨t, p, gp, cp, ht, rfl, HP, hpok, ho, r5, x5, hbl⟩ := hrel
      have HB5 := Lib.hid hbl
      have hz5 : w.heap.size ≤ wr.heap.size := hbl.size
      have hs5 := x5.lt
      have e0 := x5.cell 0
      have e1 := x5.cell 1
      have e2 := x5.cell 2
      clear hbl
      by_cases hlt : t < s % 4
      · obtain ⟨pm1, pm8, pk1, pk8, pl⟩ := hpok
        have HPL := Lib.hid pl
        have hp64 : p.m * p.k ≤ 64 := Nat.mul_le_mul pm8 pk8
        have hp1 : 1 * 1 ≤ p.m * p.k := Nat.mul_le_mul pm1 pk1
        clear pl
        go_wp2_with fail
        refine (l4Turn_any p.m p.k gp 0 cp _ p.xs _ ho.rd (Nat.le_refl _) pm8 pk8 HPL hp64).mono ?_
        rintro e w6 ⟨A6, c6, rfl, own6, hb⟩
        obtain ⟨g6, rfl, hg6, hg7⟩ := own6.some_ (by rw [turnL_len]; omega)
        have r6 := r5.all hb
        have x6 := x5.all hb
        have HB6 := Lib.hid (HB5.out.trans (hb.mono hz5))
        replace own6 := own6.mono hz5
        have z0 := x6.frozen 0
        have z1 := x6.frozen 1
        have z2 := x6.frozen 2
        have f0 := x6.cell 0
        have f1 := x6.cell 1
        have f2 := x6.cell 2
        clear hb ho r5 x5 HB5 e0 e1 e2
        go_wp2
        go_roundw
        case rel => exact ⟨t + 1, p.turn, g6, c6, by omega, by go_num, Lib.hid (by rw [HP.out]; rfl), (show p.Ok from ⟨pm1, pm8, pk1, pk8, HPL.out⟩).turn, ((own6.far (a := ⟨w1.heap.size, 0, none⟩) (row_ne' own6.1 x6 (by decide)) _).far (a := ⟨w1.heap.size, 1, none⟩) (row_ne' own6.1 x6 (by decide)) _).far (a := ⟨w1.heap.size, 2, none⟩) (row_ne' own6.1 x6 (by decide)) _, r6.far3 (by omega), x6.put3, ((HB6.out.setCell (p := ⟨w1.heap.size, 0, none⟩) (by show _ ≤ w1.heap.size; omega) _).setCell (p := ⟨w1.heap.size, 1, none⟩) (by show _ ≤ w1.heap.size; omega) _).setCell (p := ⟨w1.heap.size, 2, none⟩) (by show _ ≤ w1.heap.size; omega) _⟩
        case measure => simp [intOf]; omega
      · obtain rfl : t = s % 4 := by omega
        have g0 := r5.cell 0
        have g1 := r5.cell 1
        have g2 := r5.cell 2
        have z0 := r5.frozen 0
        have z1 := r5.frozen 1
        have z2 := r5.frozen 2
        have F := fin3 (p := w.heap.size + 1) (a := .int .i64 p.m) (b := .int .i64 p.k) (c := .slice (some ⟨gp, 0, none⟩) p.xs.length cp) ho (row_ne' ho.1 r5 (by decide)) HB5.out (by omega)
        go_wp2
        rw [← HP.out]
        exact bodyPost_ret (v := chartV p.m p.k (.slice (some ⟨gp, 0, none⟩) p.xs.length cp)) (by simp [results, Try.results51, go_sem, g0, g1, g2]) rfl ⟨_, cp, rfl, F.1, F.2⟩
end Go.Proofs.Ytpmhnklmhfadlaa
