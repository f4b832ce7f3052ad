/- The walks of the program's CompleteChart and FewestChanges. No condition. -/
import Derived.Test.YtihgobceahfpiaaOrigins
namespace Go.Proofs.Ytihgobceahfpiaa
open Go.RowKit

/-- A chart may be completed. -/
def compOk (W H : Int) (xs : List Int) (s : Int) : Bool := goodB W H xs && isSymB s && keepsB W.toNat H.toNat s.toNat
def compX (W H : Int) (xs : List Int) (s : Int) : List Int := if compOk W H xs s = true then compL (org W.toNat H.toNat s.toNat) xs xs.length else []
theorem comp_yes {W H : Int} {xs : List Int} {s : Int} (h : compOk W H xs s = true) : goodB W H xs = true ∧ isSymB s = true ∧ keepsB W.toNat H.toNat s.toNat = true := by
  simp only [compOk, Bool.and_eq_true] at h
  exact ⟨h.1.1, h.1.2, h.2⟩
theorem comp_no {W H : Int} {xs : List Int} {s : Int} (h : ¬ compOk W H xs s = true) :
    goodB W H xs = false ∨ (goodB W H xs = true ∧ isSymB s = false) ∨ (goodB W H xs = true ∧ isSymB s = true ∧ keepsB W.toNat H.toNat s.toNat = false) := by
  simp only [compOk] at h
  cases h1 : goodB W H xs <;> cases h2 : isSymB s <;> cases h3 : keepsB W.toNat H.toNat s.toNat <;> simp_all
theorem compX_len (W H : Int) (xs : List Int) (s : Int) : (compX W H xs s).length ≤ 1048576 := by
  unfold compX
  split
  · rename_i h
    have := (good_bd (comp_yes h).1).1
    rw [compL_len]
    omega
  · simp
/-- What a valid call knows. -/
theorem comp_nat {W H : Int} {xs : List Int} {s : Int} (h : compOk W H xs s = true) :
    ∃ m k t : Nat, W = m ∧ H = k ∧ s = t ∧ t ≤ 7 ∧ (⟨m, k, xs⟩ : Pic).Ok ∧ keepsB m k t = true ∧ Ring4 xs.length (org m k t) ∧ Hid (∀ x ∈ xs, 0 ≤ x ∧ x < 6) ∧ xs.length ≤ 64 ∧ 1 ≤ xs.length := by
  obtain ⟨h1, h2, h3⟩ := comp_yes h
  obtain ⟨m, k, rfl, rfl, m1, m8, k1, k8, hl, h64, hl1, hc⟩ := good_nat h1
  obtain ⟨t, rfl, ht⟩ := isSymB_yes h2
  have hk : keepsB m k t = true := h3
  have hr := org_ring m8 k8 ht hk
  rw [← hl.out] at hr
  exact ⟨m, k, t, rfl, rfl, rfl, ht, ⟨m1, m8, k1, k8, hl.out⟩, hk, hr, hc, h64, hl1⟩
/-- The first j places are completed. -/
def CompTo (g : Nat → Nat) (xs : List Int) (j : Nat) (zs : List Int) : Prop := zs.length = xs.length ∧ ∀ q, q < j → zs.getD q 0 = ((bestC g xs q : Nat) : Int)
theorem compTo_step {g : Nat → Nat} {xs zs : List Int} {j : Nat} (h : CompTo g xs j zs) (hj : j < xs.length) : CompTo g xs (j + 1) (zs.set j ((bestC g xs j : Nat) : Int)) := by
  refine ⟨by rw [List.length_set]; exact h.1, fun q hq => ?_⟩
  by_cases e : j = q
  · subst e
    rw [List.getD_eq_getElem?_getD, List.getElem?_set_self (by rw [h.1]; exact hj)]; rfl
  · rw [List.getD_eq_getElem?_getD, List.getElem?_set_ne e, ← List.getD_eq_getElem?_getD]
    exact h.2 q (by omega)
theorem compTo_end {g : Nat → Nat} {xs zs : List Int} (h : CompTo g xs xs.length zs) : zs = compL g xs xs.length :=
  list_ext0 (by rw [compL_len, h.1]) fun q hq => by rw [compL_get (by rw [← h.1]; exact hq), h.2 q (by rw [← h.1]; exact hq)]
set_option maxRecDepth 100000 in
set_option maxHeartbeats 4000000 in
theorem implCompleteChart_yes (m k b off c B s : Nat) (xs : List Int) (w : World) (hR : Rd w B (some ⟨b, off, none⟩) xs.length c xs) (hB : B ≤ w.heap.size) (hg : goodB m k xs = true) (hq : isSymB s = true) (hs7 : s ≤ 7) (hpok : (⟨m, k, xs⟩ : Pic).Ok) (hk : keepsB m k s = true) (hring : Ring4 xs.length (org m k s)) (hcol : Hid (∀ x ∈ xs, 0 ≤ x ∧ x < 6)) (hx64 : xs.length ≤ 64) (hl1 : 1 ≤ xs.length) :
    Calls Try.prog 37 #[chartV m k (.slice (some ⟨b, off, none⟩) xs.length c), .int .i64 s] w (OutChart w m k (compL (org m k s) xs xs.length) true) := by
  have hb0 := Lib.hid (((Below.refl w.heap.size w).alloc (Nat.le_refl _) (.cells #[.int .i64 m, .int .i64 k, .slice (some ⟨b, off, none⟩) xs.length c] 26)).alloc (by simp) (.cells #[.int .i64 0, .int .i64 0, .slice none 0 0] 26))
  have h' := Lib.hid ((hR.alloc hB (.cells #[.int .i64 m, .int .i64 k, .slice (some ⟨b, off, none⟩) xs.length c] 26)).alloc (by simp; omega) (.cells #[.int .i64 0, .int .i64 0, .slice none 0 0] 26))
  have r0 := (Blk.new (w.alloc (.cells #[.int .i64 m, .int .i64 k, .slice (some ⟨b, off, none⟩) xs.length c] 26)) #[.int .i64 0, .int .i64 0, .slice none 0 0] 26)
  have x0 := (Blk.new w #[.int .i64 m, .int .i64 k, .slice (some ⟨b, off, none⟩) xs.length c] 26).alloc (.cells #[.int .i64 0, .int .i64 0, .slice none 0 0] 26)
  clear hR
  go_enter Try.func37, Try.ntmps37
  go_wp2_with fail
  refine (implIsChart_any m k _ _ c B xs _ h'.out (by simp; omega)).mono ?_
  rintro e w1 ⟨rfl, hb⟩
  have r1 := (r0.all hb).at_ (q := w.heap.size + 1) (by simp)
  have x1 := x0.all hb
  have R1 := h'.out.all hb (by simp; omega)
  have HB := Lib.hid (hb0.out.trans (hb.mono (by simp; omega)))
  have hsz := r1.lt
  have e0 := x1.cell 0
  have e1 := x1.cell 1
  have e2 := x1.cell 2
  clear hb r0 x0 h' hb0
  rw [hg]
  go_wp2_with (go_at_call 75; (with_reducible refine (isSymmetry_any _ _).mono ?_); rintro e w' ⟨rfl, rfl⟩)
  refine (keepsSize_eq m k s _ _ true hk).mono ?_
  rintro e w2 ⟨rfl, hb⟩
  have r2 := r1.all hb
  have x2 := x1.all hb
  have R2 := R1.all hb (by omega)
  have HB2 := Lib.hid (HB.out.trans (hb.mono (by omega)))
  have hsz2 := r2.lt
  clear hb r1 x1 R1 HB e0 e1 e2
  have e0 := x2.cell 0
  have e1 := x2.cell 1
  have e2 := x2.cell 2
  go_wp2_with fail
  refine (originsOf_any m k b off c B s xs _ R2 (by omega) hpok hs7 hring).mono ?_
  rintro e w3 ⟨A3, c3, rfl, own3, hb⟩
  rw [orgL_len] at own3 ⊢
  obtain ⟨g3, rfl, hg31, hg32⟩ := own3.some_ (by rw [orgL_len]; omega)
  have r3 := r2.all hb
  have x3 := x2.all hb
  have R3 := R2.all hb (by omega)
  have HB3 := Lib.hid (HB2.out.trans (hb.mono (by omega)))
  have hsz3 : w2.heap.size ≤ w3.heap.size := hb.size
  have O3 := own3.rd
  clear hb r2 x2 R2 HB2 e0 e1 e2
  have e0 := x3.cell 0
  have e1 := x3.cell 1
  have e2 := x3.cell 2
  go_wp2_with fail
  refine (copyChart_any m k _ _ c B xs _ R3 (by omega) (by omega)).mono ?_
  rintro e w4 ⟨A4, c4, rfl, own4, hb⟩
  obtain ⟨g4, rfl, hg41, hg42⟩ := own4.some_ (by omega)
  have r4 := r3.all hb
  have x4 := x3.all hb
  have R4 := R3.all hb (by omega)
  have O4 := O3.all hb (Nat.le_refl _)
  have HB4 := Lib.hid (HB3.out.trans (hb.mono (by omega)))
  have hsz4 : w3.heap.size ≤ w4.heap.size := hb.size
  replace own4 := own4.mono (show w.heap.size ≤ _ by omega)
  clear hb r3 x3 R3 HB3 O3 own3 e0 e1 e2
  go_wp2
  have own0 := own4.alloc (.cells #[.int .i64 m, .int .i64 k, .slice (some ⟨g4, 0, none⟩) xs.length c4] 26)
  go_loopw [32, 8] (fun s32 s8 wr => ∃ (j : Nat) (zs : List Int), j ≤ xs.length ∧ s32 = .int .i64 j ∧ Hid (CompTo (org m k s) xs j zs) ∧ Own wr w.heap.size (.slice (some ⟨g4, 0, none⟩) xs.length c4) zs ∧
      Blk wr (w.heap.size + 1) 26 #[.int .i64 0, .int .i64 0, .slice none 0 0] ∧ Blk wr w4.heap.size 26 #[.int .i64 m, .int .i64 k, .slice (some ⟨g4, 0, none⟩) xs.length c4] ∧ Blk wr w.heap.size 26 #[.int .i64 m, .int .i64 k, .slice (some ⟨b, off, none⟩) xs.length c] ∧ Rd wr B (some ⟨b, off, none⟩) xs.length c xs ∧
      Rd wr w3.heap.size (some ⟨g3, 0, none⟩) xs.length c3 (orgL (org m k s) xs.length) ∧ Below w.heap.size w wr)
    (fun s32 _ _ => xs.length - (intOf s32).toNat)
  case atStart => exact ⟨0, xs, Nat.zero_le _, rfl, Lib.hid ⟨rfl, fun q hq => absurd hq (Nat.not_lt_zero _)⟩, own0, r4.alloc _, Blk.new _ _ _, x4.alloc _, R4.alloc (by omega) _, O4.alloc (by omega) _, HB4.out.alloc (by omega) _⟩
  case round =>
    obtain ⟨j, zs, hj, rfl, hcp, ho, r5, f5, x5, R5, O5, hbl⟩ := hrel
    have HB5 := Lib.hid hbl
    have hbz := hbl.size
    clear hbl own4 own0 HB4 r4 x4 R4 O4
    have hzf := f5.lt
    by_cases hlt : j < xs.length
    · have HP := Lib.hid (compTo_step hcp.out hlt)
      have hblt := bestC_lt (org m k s) xs j
      obtain ⟨C, HC⟩ : ∃ C : Nat, Hid (bestC (org m k s) xs j = C) := ⟨_, rfl⟩
      rw [HC.out] at HP hblt
      have hzl : zs.length = xs.length := hcp.out.1
      obtain ⟨old, HO⟩ : ∃ y, Hid (zs.getD j 0 = y) := ⟨_, rfl⟩
      have hold := own_at ho (by rw [hzl]; exact hlt) HO.out
      have hCI : I64 ((C : Nat) : Int) := ⟨by omega, by omega⟩
      have hfz := (own_put ho j ((C : Nat) : Int) hCI).1
      have hgr : g4 < wr.heap.size := (ho.bd g4 rfl).2
      have f50 := f5.cell 0
      have f52 := f5.cell 2
      have x50 := x5.cell 0
      have x51 := x5.cell 1
      have x52 := x5.cell 2
      have hxw : w.heap.size < wr.heap.size := x5.lt
      have R5d := R5.drew
      have O5d := O5.drew
      have hBd : B ≤ wr.drew.heap.size := Nat.le_trans hB hbz
      have hB2d : w3.heap.size ≤ wr.drew.heap.size := show w3.heap.size ≤ wr.heap.size by omega
      have hB2r : w3.heap.size ≤ wr.heap.size := hB2d
      go_wp2
      go_region_law (first | (go_simp; go_at_call 83; (with_reducible refine (mostIn_any m k b off c B g3 0 c3 w3.heap.size j xs (org m k s) wr.drew R5d O5d hBd hB2d hring hlt hx64 hcol).mono ?_); rintro e wa ⟨rfl, hba⟩; have hb6 : Below wr.heap.size wr wa := below_drew hba; have hbc : ∀ b o, b < wr.heap.size → wa.cell? ⟨b, o, none⟩ = wr.cell? ⟨b, o, none⟩ := (bcell hb6).1; have hbf : ∀ b o, b < wr.heap.size → wa.frozen? ⟨b, o, none⟩ = wr.frozen? ⟨b, o, none⟩ := (bcell hb6).2; have hz6 : wr.heap.size ≤ wa.heap.size := hb6.size; have f52a := (hbc _ 2 hzf).trans f52; have holda := (hbc g4 j hgr).trans hold; have hfza := (hbf g4 j hgr).trans hfz; have oa := ho.all hb6; have xa := x5.all hb6; have fa := f5.all hb6; have ra := r5.all hb6; have Ra := R5.all hb6 (Nat.le_trans hB hbz); have Oa := O5.all hb6 hB2r; have HBa := Lib.hid (HB5.out.trans (hb6.mono hbz)); have hza : w.heap.size ≤ wa.heap.size := Nat.le_trans hbz hz6))
      all_goals
        rw [HC.out]
        obtain ⟨_, o7, hg7⟩ := own_put oa j ((C : Nat) : Int) hCI
        have r7 := ra.mark hg7 (fun z hz => by cases hz; omega)
        have f7 := fa.mark hg7 (row_ne oa.1 fa (by decide))
        have x7 := xa.mark hg7 (fun z hz => by cases hz; omega)
        have R7 := Ra.mark hg7 (fun z hz => by cases hz; omega) (Nat.le_trans hB hza)
        have O7 := Oa.mark hg7 (fun z hz => by cases hz; omega) (Nat.le_trans hB2r hz6)
        have HB7 := Lib.hid (HBa.out.grown hg7 hza (fun z hz => by cases hz; omega))
        go_wp2
        go_roundw
        case rel => exact ⟨j + 1, _, by omega, by go_num, HP, o7, r7, f7, x7, R7, O7, HB7.out⟩
        case measure => simp [intOf]; omega
    · obtain rfl : j = xs.length := by omega
      have hce := compTo_end hcp.out
      subst hce
      have f0 := f5.cell 0
      have f1 := f5.cell 1
      have f2' := f5.cell 2
      have g0 := r5.cell 0
      have g1 := r5.cell 1
      have g2 := r5.cell 2
      have z0 := r5.frozen 0
      have z1 := r5.frozen 1
      have z2 := r5.frozen 2
      have HML := Lib.hid (compL_len (org m k s) xs xs.length)
      have F := fin3 (p := w.heap.size + 1) (a := .int .i64 m) (b := .int .i64 k) (c := .slice (some ⟨g4, 0, none⟩) xs.length c4) ho (by simp [Value.ownBlock]; omega) HB5.out (by omega)
      go_wp2
      exact bodyPost_ret (v := .tuple #[chartV m k (.slice (some ⟨g4, 0, none⟩) xs.length c4), .bool true]) (by simp [results, Try.results37, go_sem, g0, g1, g2]) rfl ⟨_, c4, by rw [HML.out], by rw [HML.out]; exact F.1, F.2⟩
set_option maxRecDepth 100000 in
set_option maxHeartbeats 2000000 in
theorem implCompleteChart_any (W H : Int) (A : Option Addr) (n c B : Nat) (xs : List Int) (s : Int) (w : World) (hR : Rd w B A n c xs) (hB : B ≤ w.heap.size) :
    Calls Try.prog 37 #[chartV W H (.slice A n c), .int .i64 s] w (OutChart w (orZero (compOk W H xs s) W) (orZero (compOk W H xs s) H) (compX W H xs s) (compOk W H xs s)) := by
  by_cases h : compOk W H xs s = true
  · rw [compX, if_pos h, h]
    obtain ⟨h1, h2, h3⟩ := comp_yes h
    obtain ⟨m, k, t, rfl, rfl, rfl, ht7, hpok, hk, hring, hcol, hx64, hl1⟩ := comp_nat h
    simp only [Int.toNat_natCast]
    obtain rfl := hR.len
    obtain ⟨b, off, rfl, _, _⟩ := hR.cells (by omega)
    exact implCompleteChart_yes m k b off c B t xs w hR hB h1 h2 ht7 hpok hk hring hcol hx64 hl1
  · rw [compX, if_neg h, not_false h]
    have hb0 := Lib.hid (((Below.refl w.heap.size w).alloc (Nat.le_refl _) (.cells #[.int .i64 W, .int .i64 H, .slice A n c] 26)).alloc (by simp) (.cells #[.int .i64 0, .int .i64 0, .slice none 0 0] 26))
    have h' := Lib.hid ((hR.alloc hB (.cells #[.int .i64 W, .int .i64 H, .slice A n c] 26)).alloc (by simp; omega) (.cells #[.int .i64 0, .int .i64 0, .slice none 0 0] 26))
    have r0 := (Blk.new (w.alloc (.cells #[.int .i64 W, .int .i64 H, .slice A n c] 26)) #[.int .i64 0, .int .i64 0, .slice none 0 0] 26)
    have x0 := (Blk.new w #[.int .i64 W, .int .i64 H, .slice A n c] 26).alloc (.cells #[.int .i64 0, .int .i64 0, .slice none 0 0] 26)
    rcases comp_no h with hg | ⟨hg, hq⟩ | ⟨hg, hq, hk⟩
    · clear h
      go_enter Try.func37, Try.ntmps37
      go_wp2_with fail
      refine (implIsChart_any W H A n c B xs _ h'.out (by simp; omega)).mono ?_
      rintro e w1 ⟨rfl, hb⟩
      have r1 := (r0.all hb).at_ (q := w.heap.size + 1) (by simp)
      have HB := Lib.hid (hb0.out.trans (hb.mono (by simp; omega)))
      have x1 := x0.all hb
      have hsz := r1.lt
      have e0 := x1.cell 0
      have e1 := x1.cell 1
      have e2 := x1.cell 2
      clear hb r0
      rw [hg]
      have g0 := r1.cell 0
      have g1 := r1.cell 1
      have g2 := r1.cell 2
      have z0 := r1.frozen 0
      have z1 := r1.frozen 1
      have z2 := r1.frozen 2
      go_wp2_with (go_at_call 75; (with_reducible refine (isSymmetry_any _ _).mono ?_); rintro e w' ⟨rfl, rfl⟩)
      have F := fin3 (p := w.heap.size + 1) (a := .int .i64 0) (b := .int .i64 0) (c := .slice none 0 0) (Own.nil w1 w.heap.size) (by simp [Value.ownBlock]) HB.out (by omega)
      exact bodyPost_ret (v := .tuple #[chartV 0 0 (.slice none 0 0), .bool false]) (by simp [results, Try.results37, go_sem, g0, g1, g2]) rfl ⟨none, 0, rfl, F.1, F.2⟩
    · clear h
      go_enter Try.func37, Try.ntmps37
      go_wp2_with fail
      refine (implIsChart_any W H A n c B xs _ h'.out (by simp; omega)).mono ?_
      rintro e w1 ⟨rfl, hb⟩
      have r1 := (r0.all hb).at_ (q := w.heap.size + 1) (by simp)
      have HB := Lib.hid (hb0.out.trans (hb.mono (by simp; omega)))
      have x1 := x0.all hb
      have hsz := r1.lt
      have e0 := x1.cell 0
      have e1 := x1.cell 1
      have e2 := x1.cell 2
      clear hb r0
      rw [hg]
      have g0 := r1.cell 0
      have g1 := r1.cell 1
      have g2 := r1.cell 2
      have z0 := r1.frozen 0
      have z1 := r1.frozen 1
      have z2 := r1.frozen 2
      go_wp2_with (go_at_call 75; (with_reducible refine (isSymmetry_any _ _).mono ?_); rintro e w' ⟨rfl, rfl⟩)
      have F := fin3 (p := w.heap.size + 1) (a := .int .i64 0) (b := .int .i64 0) (c := .slice none 0 0) (Own.nil w1 w.heap.size) (by simp [Value.ownBlock]) HB.out (by omega)
      exact bodyPost_ret (v := .tuple #[chartV 0 0 (.slice none 0 0), .bool false]) (by simp [results, Try.results37, go_sem, g0, g1, g2]) rfl ⟨none, 0, rfl, F.1, F.2⟩
    · obtain ⟨m, k, rfl, rfl, m1, m8, k1, k8, hl, h64, hl1, _⟩ := good_nat hg
      obtain ⟨s, rfl, hs7⟩ := isSymB_yes hq
      have hk' : keepsB m k s = false := hk
      clear hk
      clear h
      go_enter Try.func37, Try.ntmps37
      go_wp2_with fail
      refine (implIsChart_any m k A n c B xs _ h'.out (by simp; omega)).mono ?_
      rintro e w1 ⟨rfl, hb⟩
      have r1 := (r0.all hb).at_ (q := w.heap.size + 1) (by simp)
      have HB := Lib.hid (hb0.out.trans (hb.mono (by simp; omega)))
      have x1 := x0.all hb
      have hsz := r1.lt
      have e0 := x1.cell 0
      have e1 := x1.cell 1
      have e2 := x1.cell 2
      clear hb r0
      rw [hg]
      go_wp2_with (go_at_call 75; (with_reducible refine (isSymmetry_any _ _).mono ?_); rintro e w' ⟨rfl, rfl⟩)
      refine (keepsSize_eq m k s _ _ false hk').mono ?_
      rintro e w2 ⟨rfl, hb⟩
      have r2 := r1.all hb
      have HB2 := Lib.hid (HB.out.trans (hb.mono (by omega)))
      clear hb e0 e1 e2
      have g0 := r2.cell 0
      have g1 := r2.cell 1
      have g2 := r2.cell 2
      have z0 := r2.frozen 0
      have z1 := r2.frozen 1
      have z2 := r2.frozen 2
      go_wp2_with fail
      have F := fin3 (p := w.heap.size + 1) (a := .int .i64 0) (b := .int .i64 0) (c := .slice none 0 0) (Own.nil w2 w.heap.size) (by simp [Value.ownBlock]) HB2.out (by omega)
      exact bodyPost_ret (v := .tuple #[chartV 0 0 (.slice none 0 0), .bool false]) (by simp [results, Try.results37, go_sem, g0, g1, g2]) rfl ⟨none, 0, rfl, F.1, F.2⟩
/-- How many of the first j knots differ. -/
def chTo (xs ys : List Int) : Nat → Nat
  | 0 => 0
  | j + 1 => chTo xs ys j + (if ys.getD j 0 = xs.getD j 0 then 0 else 1)
theorem chTo_le (xs ys : List Int) : ∀ j, chTo xs ys j ≤ j
  | 0 => Nat.le_refl _
  | j + 1 => by have := chTo_le xs ys j; unfold chTo; split <;> omega
theorem chTo_yes {xs ys : List Int} {j : Nat} (h : ys.getD j 0 = xs.getD j 0) : chTo xs ys (j + 1) = chTo xs ys j := by
  show chTo xs ys j + _ = _
  rw [if_pos h, Nat.add_zero]
theorem chTo_no {xs ys : List Int} {j : Nat} (h : ¬ ys.getD j 0 = xs.getD j 0) : chTo xs ys (j + 1) = chTo xs ys j + 1 := by
  show chTo xs ys j + _ = _
  rw [if_neg h]
def fewN (W H : Int) (xs : List Int) (s : Int) : Int := if compOk W H xs s = true then ((chTo xs (compL (org W.toNat H.toNat s.toNat) xs xs.length) xs.length : Nat) : Int) else 0
set_option maxRecDepth 100000 in
set_option maxHeartbeats 2000000 in
theorem implFewestChanges_any (W H : Int) (A : Option Addr) (n c B : Nat) (xs : List Int) (s : Int) (w : World) (hR : Rd w B A n c xs) (hB : B ≤ w.heap.size) :
    Calls Try.prog 39 #[chartV W H (.slice A n c), .int .i64 s] w (Out w (.tuple #[.int .i64 (fewN W H xs s), .bool (compOk W H xs s)])) := by
  have hb0 := Lib.hid ((Below.refl w.heap.size w).alloc (Nat.le_refl _) (.cells #[.int .i64 W, .int .i64 H, .slice A n c] 26))
  have h' := Lib.hid (hR.alloc hB (.cells #[.int .i64 W, .int .i64 H, .slice A n c] 26))
  have x0 := Blk.new w #[.int .i64 W, .int .i64 H, .slice A n c] 26
  by_cases h : compOk W H xs s = true
  · have HV := Lib.hid (show fewN W H xs s = ((chTo xs (compL (org W.toNat H.toNat s.toNat) xs xs.length) xs.length : Nat) : Int) ∧ compOk W H xs s = true from ⟨if_pos h, h⟩)
    have HX := Lib.hid (show compX W H xs s = compL (org W.toNat H.toNat s.toNat) xs xs.length from if_pos h)
    have hl1 : 1 ≤ xs.length ∧ xs.length ≤ 64 := by
      have := good_bd (comp_yes h).1
      omega
    obtain ⟨hl1, hx64⟩ := hl1
    obtain rfl := hR.len
    obtain ⟨b, off, rfl, _, _⟩ := hR.cells (by omega)
    clear hR
    go_enter Try.func39, Try.ntmps39
    go_wp2_with fail
    refine (implCompleteChart_any W H _ _ c B xs s _ h'.out (by simp; omega)).mono ?_
    rintro e w1 ⟨A1, c1, rfl, own, hb⟩
    rw [HX.out] at own ⊢
    rw [h]
    clear h
    rw [show orZero true W = W from rfl, show orZero true H = H from rfl]
    have hyl := compL_len (org W.toNat H.toNat s.toNat) xs xs.length
    generalize compL (org W.toNat H.toNat s.toNat) xs xs.length = ys at *
    have x1 := x0.all hb
    have R1 := h'.out.all hb (by simp; omega)
    have HB := Lib.hid (hb0.out.trans (hb.mono (by simp)))
    have hsz := x1.lt
    obtain ⟨g1, rfl, hg1, hg2⟩ := own.some_ (by omega)
    have HYL := Lib.hid hyl
    clear hb x0 h' hb0 HX hyl
    have own2 := own.alloc (.cells #[.int .i64 W, .int .i64 H, .slice (some ⟨g1, 0, none⟩) ys.length c1] 26)
    have x2 := x1.alloc (.cells #[.int .i64 W, .int .i64 H, .slice (some ⟨g1, 0, none⟩) ys.length c1] 26)
    have R2 := R1.alloc (by omega) (.cells #[.int .i64 W, .int .i64 H, .slice (some ⟨g1, 0, none⟩) ys.length c1] 26)
    have HB2 := Lib.hid (HB.out.alloc (by omega) (.cells #[.int .i64 W, .int .i64 H, .slice (some ⟨g1, 0, none⟩) ys.length c1] 26))
    go_wp2
    generalize w1.alloc (.cells #[.int .i64 W, .int .i64 H, .slice (some ⟨g1, 0, none⟩) ys.length c1] 26) = wv at *
    clear own x1 R1 HB hsz hg1 hg2
    have e2 := x2.cell 2
    go_loopw [22, 9, 10, 8] (fun s22 _ _ s8 wr => ∃ j : Nat, j ≤ xs.length ∧ s22 = .int .i64 j ∧ s8 = .int .i64 ((chTo xs ys j : Nat) : Int) ∧ wr = wv) (fun s22 _ _ _ _ => xs.length - (intOf s22).toNat)
    case atStart => exact ⟨0, Nat.zero_le _, rfl, rfl, rfl⟩
    case round =>
      obtain ⟨j, hj, rfl, rfl, rfl⟩ := hrel
      have hch := chTo_le xs ys j
      by_cases hlt : j < xs.length
      · obtain ⟨_, _, x, hee, _, hx, _, _, HX⟩ := R2.at hlt
        cases hee
        obtain ⟨y, HY⟩ : ∃ y, Hid (ys.getD j 0 = y) := ⟨_, rfl⟩
        have hlt2 : j < ys.length := by rw [HYL.out]; exact hlt
        have hy := own_at own2 hlt2 HY.out
        by_cases hxy : y = x
        · subst hxy
          have HS := Lib.hid (chTo_yes (xs := xs) (ys := ys) (j := j) (by rw [HY.out, HX.out]))
          go_wp2
          go_roundw
          case rel => exact ⟨j + 1, by omega, by go_num, by rw [HS.out], by first | rfl | trivial⟩
          case measure => simp [intOf]; omega
        · have hne : (y != x) = true := by simpa using hxy
          have HS := Lib.hid (chTo_no (xs := xs) (ys := ys) (j := j) (by rw [HY.out, HX.out]; exact hxy))
          go_wp2
          go_roundw
          case rel => exact ⟨j + 1, by omega, by go_num, by rw [HS.out]; go_num, by first | rfl | trivial⟩
          case measure => simp [intOf]; omega
      · obtain rfl : j = xs.length := by omega
        have hend : ¬ xs.length < ys.length := by rw [HYL.out]; omega
        go_wp2
        go_ret2
        exact ⟨ret2_ib HV.out.1.symm HV.out.2.symm, HB2.out⟩
  · have HV := Lib.hid (show fewN W H xs s = 0 ∧ compOk W H xs s = false from ⟨if_neg h, not_false h⟩)
    have HX := Lib.hid (show compX W H xs s = [] from if_neg h)
    have h0 := not_false h
    clear h
    go_enter Try.func39, Try.ntmps39
    go_wp2_with fail
    refine (implCompleteChart_any W H _ _ c B xs s _ h'.out (by simp; omega)).mono ?_
    rintro e w1 ⟨A1, c1, rfl, own, hb⟩
    have HB := Lib.hid (hb0.out.trans (hb.mono (by simp)))
    have hz := HB.out.size
    have HB2 := Lib.hid (HB.out.alloc hz (.cells #[.int .i64 0, .int .i64 0, .slice A1 0 c1] 26))
    rw [h0]
    rw [HX.out] at own ⊢
    rw [show orZero false W = 0 from rfl, show orZero false H = 0 from rfl]
    clear hb own x0 h' hb0 HX h0
    go_wp2
    go_ret2
    exact ⟨ret2_ib HV.out.1.symm HV.out.2.symm, HB2.out⟩
end Go.Proofs.Ytihgobceahfpiaa
