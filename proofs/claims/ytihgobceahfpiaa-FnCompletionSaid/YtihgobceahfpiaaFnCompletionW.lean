/- The walk of the law FnCompletion. No condition. -/
import Derived.Test.YtihgobceahfpiaaDraws4
import Derived.Test.YtihgobceahfpiaaFnMath
import Derived.Test.YtihgobceahfpiaaMove
namespace Go.Proofs.Ytihgobceahfpiaa
open Go.RowKit

theorem mirror_good {W H : Int} {xs : List Int} (h : goodB W H xs = true) : goodB W H (mirrorL W.toNat H.toNat xs) = true ∧ mirrorL W.toNat H.toNat (mirrorL W.toNat H.toNat xs) = xs := by
  obtain ⟨m, k, rfl, rfl, m1, m8, k1, k8, hl, h64, hl1, hc⟩ := good_nat h
  simp only [Int.toNat_natCast]
  refine ⟨?_, mirror_mirror hl.out⟩
  have hm : (mirrorL m k xs).length = m * k := by rw [mirrorL_len, Nat.mul_comm]
  simp only [goodB, Bool.and_eq_true, decide_eq_true_eq, List.all_eq_true]
  refine ⟨⟨⟨by simp [isSideB]; omega, by simp [isSideB]; omega⟩, by rw [hm, ← Int.natCast_mul]⟩, fun x hx => ?_⟩
  obtain ⟨q, hq, e⟩ := List.getElem_of_mem hx
  rw [hm] at hq
  have := mirror_get (m := m) (k := k) (xs := xs) hq
  rw [getD_at (by rw [hm]; exact hq), e] at this
  have hlt := msrc_lt (m := m) (k := k) hq
  have hc' := hc _ (show xs.getD (msrc m q) 0 ∈ xs by rw [getD_at (by rw [hl.out]; exact hlt)]; exact List.getElem_mem _)
  rw [← this] at hc'
  simp [isColorB]
  omega
set_option maxRecDepth 100000 in
set_option maxHeartbeats 16000000 in
theorem fnCompletion_walk (w : World) (A : Option Addr) (n c : Nat) (R : RdB w w.heap.size A n c) : Calls Try.prog 5 #[.slice A n c] w fun e w' => e = .returned (.bool true) ∧ Below w.heap.size w w' := by
  have hcap := R.cap
  have hmax := R.max
  unfold maxLen at hmax
  have HB := Below.refl w.heap.size w
  by_cases hn : n ≤ 65536
  · go_enter Try.func5, Try.ntmps5
    go_wp2_with fail
    refine (vBig_eq A n c _ (by omega) false (by simp; omega)).mono ?_
    rintro e w' ⟨rfl, rfl⟩
    go_wp2_with fail
    refine (drawCompleteChart_any A n c w.heap.size _ R HB.size hn).mono ?_
    rintro e w1 ⟨W1, H1, A1, c1, xs1, s1, rfl, hsm1, hs1, own, hb⟩
    replace R := R.all hb HB.size
    have OX1 := own.mono HB.size
    clear own
    replace HB := HB.trans (hb.mono HB.size)
    clear hb
    replace OX1 := OX1.alloc (.cells #[.int .i64 W1, .int .i64 H1, .slice A1 xs1.length c1] 26)
    replace R := R.alloc HB.size (.cells #[.int .i64 W1, .int .i64 H1, .slice A1 xs1.length c1] 26)
    have bX1 := Blk.new w1 #[.int .i64 W1, .int .i64 H1, .slice A1 xs1.length c1] 26
    replace HB := HB.alloc HB.size (.cells #[.int .i64 W1, .int .i64 H1, .slice A1 xs1.length c1] 26)
    obtain ⟨ok, hok⟩ : ∃ b, compOk W1 H1 xs1 s1 = b := ⟨_, rfl⟩
    obtain ⟨cW, hcW⟩ : ∃ b, orZero ok W1 = b := ⟨_, rfl⟩
    obtain ⟨cH, hcH⟩ : ∃ b, orZero ok H1 = b := ⟨_, rfl⟩
    obtain ⟨ys, hys⟩ : ∃ b, compX W1 H1 xs1 s1 = b := ⟨_, rfl⟩
    obtain ⟨nf, hnf⟩ : ∃ b, fewN W1 H1 xs1 s1 = b := ⟨_, rfl⟩
    have hCi : Hid (∀ (w : World) (A : Option Addr) (c : Nat), Rd w w.heap.size A xs1.length c xs1 → Calls Try.prog 37 #[chartV W1 H1 (.slice A xs1.length c), .int .i64 s1] w (OutChart w cW cH ys ok)) := Lib.hid fun w A c h => (by have := implCompleteChart_any W1 H1 A _ c _ xs1 s1 w h (Nat.le_refl _); rw [hok, hcW, hcH, hys] at this; exact this)
    have hCs : Hid (∀ (w : World) (A : Option Addr) (c : Nat), Rd w w.heap.size A xs1.length c xs1 → Calls Try.prog 38 #[chartV W1 H1 (.slice A xs1.length c), .int .i64 s1] w (OutChart w cW cH ys ok)) := Lib.hid fun w A c h => (by have := specCompleteChart_any W1 H1 A _ c _ xs1 s1 w h (Nat.le_refl _); rw [hok, hcW, hcH, hys] at this; exact this)
    have hFi : Hid (∀ (w : World) (A : Option Addr) (c : Nat), Rd w w.heap.size A xs1.length c xs1 → Calls Try.prog 39 #[chartV W1 H1 (.slice A xs1.length c), .int .i64 s1] w (Out w (.tuple #[.int .i64 nf, .bool ok]))) := Lib.hid fun w A c h => (by have := implFewestChanges_any W1 H1 A _ c _ xs1 s1 w h (Nat.le_refl _); rw [hok, hnf] at this; exact this)
    have hFs : Hid (∀ (w : World) (A : Option Addr) (c : Nat), Rd w w.heap.size A xs1.length c xs1 → Calls Try.prog 40 #[chartV W1 H1 (.slice A xs1.length c), .int .i64 s1] w (Out w (.tuple #[.int .i64 nf, .bool ok]))) := Lib.hid fun w A c h => (by have := specFewestChanges_any W1 H1 A _ c _ xs1 s1 w h (Nat.le_refl _); rw [hok, hnf] at this; exact this)
    have ebX10 := bX1.cell 0
    have ebX11 := bX1.cell 1
    have ebX12 := bX1.cell 2
    have zbX1 := bX1.lt
    go_wp2_with fail
    refine (hCi.out _ _ _ OX1.rd).mono ?_
    rintro e w2 ⟨A2, c2, rfl, own, hb⟩
    clear ebX10 ebX11 ebX12 zbX1
    replace OX1 := OX1.all hb
    replace bX1 := bX1.all hb
    replace R := R.all hb HB.size
    have OC1 := own.mono HB.size
    clear own
    replace HB := HB.trans (hb.mono HB.size)
    clear hb
    replace OX1 := OX1.alloc (.cells #[.int .i64 cW, .int .i64 cH, .slice A2 ys.length c2] 26)
    replace OC1 := OC1.alloc (.cells #[.int .i64 cW, .int .i64 cH, .slice A2 ys.length c2] 26)
    replace bX1 := bX1.alloc (.cells #[.int .i64 cW, .int .i64 cH, .slice A2 ys.length c2] 26)
    replace R := R.alloc HB.size (.cells #[.int .i64 cW, .int .i64 cH, .slice A2 ys.length c2] 26)
    have bC1 := Blk.new w2 #[.int .i64 cW, .int .i64 cH, .slice A2 ys.length c2] 26
    replace HB := HB.alloc HB.size (.cells #[.int .i64 cW, .int .i64 cH, .slice A2 ys.length c2] 26)
    have ebX10 := bX1.cell 0
    have ebX11 := bX1.cell 1
    have ebX12 := bX1.cell 2
    have zbX1 := bX1.lt
    have ebC10 := bC1.cell 0
    have ebC11 := bC1.cell 1
    have ebC12 := bC1.cell 2
    have zbC1 := bC1.lt
    go_wp2_with fail
    refine (hCs.out _ _ _ OX1.rd).mono ?_
    rintro e w3 ⟨A3, c3, rfl, own, hb⟩
    clear ebX10 ebX11 ebX12 zbX1 ebC10 ebC11 ebC12 zbC1
    replace OX1 := OX1.all hb
    replace OC1 := OC1.all hb
    replace bX1 := bX1.all hb
    replace bC1 := bC1.all hb
    replace R := R.all hb HB.size
    have OC2 := own.mono HB.size
    clear own
    replace HB := HB.trans (hb.mono HB.size)
    clear hb
    replace OX1 := OX1.alloc (.cells #[.int .i64 cW, .int .i64 cH, .slice A3 ys.length c3] 26)
    replace OC1 := OC1.alloc (.cells #[.int .i64 cW, .int .i64 cH, .slice A3 ys.length c3] 26)
    replace OC2 := OC2.alloc (.cells #[.int .i64 cW, .int .i64 cH, .slice A3 ys.length c3] 26)
    replace bX1 := bX1.alloc (.cells #[.int .i64 cW, .int .i64 cH, .slice A3 ys.length c3] 26)
    replace bC1 := bC1.alloc (.cells #[.int .i64 cW, .int .i64 cH, .slice A3 ys.length c3] 26)
    replace R := R.alloc HB.size (.cells #[.int .i64 cW, .int .i64 cH, .slice A3 ys.length c3] 26)
    have bC2 := Blk.new w3 #[.int .i64 cW, .int .i64 cH, .slice A3 ys.length c3] 26
    replace HB := HB.alloc HB.size (.cells #[.int .i64 cW, .int .i64 cH, .slice A3 ys.length c3] 26)
    have ebX10 := bX1.cell 0
    have ebX11 := bX1.cell 1
    have ebX12 := bX1.cell 2
    have zbX1 := bX1.lt
    have ebC10 := bC1.cell 0
    have ebC11 := bC1.cell 1
    have ebC12 := bC1.cell 2
    have zbC1 := bC1.lt
    have ebC20 := bC2.cell 0
    have ebC21 := bC2.cell 1
    have ebC22 := bC2.cell 2
    have zbC2 := bC2.lt
    go_wp2_with fail
    refine (vChart_same cW cH _ _ _ _ _ _ _ _ ys _ OC1.rd OC2.rd (Nat.le_refl _) (Nat.le_refl _)).mono ?_
    rintro e w4 ⟨rfl, hb⟩
    clear ebX10 ebX11 ebX12 zbX1 ebC10 ebC11 ebC12 zbC1 ebC20 ebC21 ebC22 zbC2
    replace OX1 := OX1.all hb
    replace OC1 := OC1.all hb
    replace OC2 := OC2.all hb
    replace bX1 := bX1.all hb
    replace bC1 := bC1.all hb
    replace bC2 := bC2.all hb
    replace R := R.all hb HB.size
    replace HB := HB.trans (hb.mono HB.size)
    clear hb
    have ebX10 := bX1.cell 0
    have ebX11 := bX1.cell 1
    have ebX12 := bX1.cell 2
    have zbX1 := bX1.lt
    have ebC10 := bC1.cell 0
    have ebC11 := bC1.cell 1
    have ebC12 := bC1.cell 2
    have zbC1 := bC1.lt
    have ebC20 := bC2.cell 0
    have ebC21 := bC2.cell 1
    have ebC22 := bC2.cell 2
    have zbC2 := bC2.lt
    go_wp2_with fail
    refine (hFi.out _ _ _ OX1.rd).mono ?_
    rintro e w5 ⟨rfl, hb⟩
    clear ebX10 ebX11 ebX12 zbX1 ebC10 ebC11 ebC12 zbC1 ebC20 ebC21 ebC22 zbC2
    replace OX1 := OX1.all hb
    replace OC1 := OC1.all hb
    replace OC2 := OC2.all hb
    replace bX1 := bX1.all hb
    replace bC1 := bC1.all hb
    replace bC2 := bC2.all hb
    replace R := R.all hb HB.size
    replace HB := HB.trans (hb.mono HB.size)
    clear hb
    have ebX10 := bX1.cell 0
    have ebX11 := bX1.cell 1
    have ebX12 := bX1.cell 2
    have zbX1 := bX1.lt
    have ebC10 := bC1.cell 0
    have ebC11 := bC1.cell 1
    have ebC12 := bC1.cell 2
    have zbC1 := bC1.lt
    have ebC20 := bC2.cell 0
    have ebC21 := bC2.cell 1
    have ebC22 := bC2.cell 2
    have zbC2 := bC2.lt
    go_wp2_with fail
    refine (hFs.out _ _ _ OX1.rd).mono ?_
    rintro e w6 ⟨rfl, hb⟩
    clear ebX10 ebX11 ebX12 zbX1 ebC10 ebC11 ebC12 zbC1 ebC20 ebC21 ebC22 zbC2
    replace OX1 := OX1.all hb
    replace OC1 := OC1.all hb
    replace OC2 := OC2.all hb
    replace bX1 := bX1.all hb
    replace bC1 := bC1.all hb
    replace bC2 := bC2.all hb
    replace R := R.all hb HB.size
    replace HB := HB.trans (hb.mono HB.size)
    clear hb
    clear hCi hCs hFi hFs OC2 bC2
    cases ok
    · clear hok hcW hcH hys hnf hsm1 hs1 OC1 bC1 OX1 bX1
      go_wp2_with fail
      refine (drawHasSymmetry_any A n c w.heap.size _ R HB.size hn).mono ?_
      rintro e w7 ⟨W2, H2, A4, c4, xs2, s2, rfl, hsm2, hs2, own, hb⟩
      replace R := R.all hb HB.size
      have OX2 := own.mono HB.size
      clear own
      replace HB := HB.trans (hb.mono HB.size)
      clear hb
      replace OX2 := OX2.alloc (.cells #[.int .i64 W2, .int .i64 H2, .slice A4 xs2.length c4] 26)
      replace R := R.alloc HB.size (.cells #[.int .i64 W2, .int .i64 H2, .slice A4 xs2.length c4] 26)
      have bX2 := Blk.new w7 #[.int .i64 W2, .int .i64 H2, .slice A4 xs2.length c4] 26
      replace HB := HB.alloc HB.size (.cells #[.int .i64 W2, .int .i64 H2, .slice A4 xs2.length c4] 26)
      obtain ⟨hv, hhv⟩ : ∃ b, hasB W2 H2 xs2 s2 = b := ⟨_, rfl⟩
      obtain ⟨mv, hmv⟩ : ∃ b, moveOk W2 H2 xs2 s2 = b := ⟨_, rfl⟩
      have hHi : Hid (∀ (w : World) (A : Option Addr) (c : Nat), Rd w w.heap.size A xs2.length c xs2 → Calls Try.prog 41 #[chartV W2 H2 (.slice A xs2.length c), .int .i64 s2] w (Out w (.tuple #[.bool hv, .bool mv]))) := Lib.hid fun w A c h => (by have := implHasSymmetry_any W2 H2 A _ c _ xs2 s2 w h (Nat.le_refl _); rw [hhv, hmv] at this; exact this)
      have hHs : Hid (∀ (w : World) (A : Option Addr) (c : Nat), Rd w w.heap.size A xs2.length c xs2 → Calls Try.prog 43 #[chartV W2 H2 (.slice A xs2.length c), .int .i64 s2] w (Out w (.tuple #[.bool hv, .bool mv]))) := Lib.hid fun w A c h => (by have := specHasSymmetry_any W2 H2 A _ c _ xs2 s2 w h (Nat.le_refl _); rw [hhv, hmv] at this; exact this)
      have ebX20 := bX2.cell 0
      have ebX21 := bX2.cell 1
      have ebX22 := bX2.cell 2
      have zbX2 := bX2.lt
      go_wp2_with fail
      refine (hHi.out _ _ _ OX2.rd).mono ?_
      rintro e w8 ⟨rfl, hb⟩
      clear ebX20 ebX21 ebX22 zbX2
      replace OX2 := OX2.all hb
      replace bX2 := bX2.all hb
      replace R := R.all hb HB.size
      replace HB := HB.trans (hb.mono HB.size)
      clear hb
      have ebX20 := bX2.cell 0
      have ebX21 := bX2.cell 1
      have ebX22 := bX2.cell 2
      have zbX2 := bX2.lt
      go_wp2_with fail
      refine (hHs.out _ _ _ OX2.rd).mono ?_
      rintro e w9 ⟨rfl, hb⟩
      clear ebX20 ebX21 ebX22 zbX2
      replace OX2 := OX2.all hb
      replace bX2 := bX2.all hb
      replace R := R.all hb HB.size
      replace HB := HB.trans (hb.mono HB.size)
      clear hb
      clear hHi hHs hhv hmv hsm2 hs2 OX2 bX2
      go_wp2_with fail
      refine (drawTurnChart_any A n c w.heap.size _ R HB.size hn).mono ?_
      rintro e w10 ⟨W3, H3, A5, c5, xs3, rfl, hsm3, own, hb⟩
      replace R := R.all hb HB.size
      have OX3 := own.mono HB.size
      clear own
      replace HB := HB.trans (hb.mono HB.size)
      clear hb
      replace OX3 := OX3.alloc (.cells #[.int .i64 W3, .int .i64 H3, .slice A5 xs3.length c5] 26)
      replace R := R.alloc HB.size (.cells #[.int .i64 W3, .int .i64 H3, .slice A5 xs3.length c5] 26)
      have bX3 := Blk.new w10 #[.int .i64 W3, .int .i64 H3, .slice A5 xs3.length c5] 26
      replace HB := HB.alloc HB.size (.cells #[.int .i64 W3, .int .i64 H3, .slice A5 xs3.length c5] 26)
      obtain ⟨t3, ht3⟩ : ∃ b, goodB W3 H3 xs3 = b := ⟨_, rfl⟩
      obtain ⟨tW, htW⟩ : ∃ b, orZero t3 (H3.toNat : Int) = b := ⟨_, rfl⟩
      obtain ⟨tH, htH⟩ : ∃ b, orZero t3 (W3.toNat : Int) = b := ⟨_, rfl⟩
      obtain ⟨ts, hts⟩ : ∃ b, (if t3 = true then turnL W3.toNat H3.toNat xs3 else []) = b := ⟨_, rfl⟩
      have hTi : Hid (∀ (w : World) (A : Option Addr) (c : Nat), Rd w w.heap.size A xs3.length c xs3 → Calls Try.prog 45 #[chartV W3 H3 (.slice A xs3.length c)] w (OutChart w tW tH ts t3)) := Lib.hid fun w A c h => (by have := implTurnChart_any W3 H3 A _ c _ xs3 w h (Nat.le_refl _); rw [ht3, htW, htH, hts] at this; exact this)
      have hTs : Hid (∀ (w : World) (A : Option Addr) (c : Nat), Rd w w.heap.size A xs3.length c xs3 → Calls Try.prog 46 #[chartV W3 H3 (.slice A xs3.length c)] w (OutChart w tW tH ts t3)) := Lib.hid fun w A c h => (by have := specTurnChart_any W3 H3 A _ c _ xs3 w h (Nat.le_refl _); rw [ht3, htW, htH, hts] at this; exact this)
      have ebX30 := bX3.cell 0
      have ebX31 := bX3.cell 1
      have ebX32 := bX3.cell 2
      have zbX3 := bX3.lt
      go_wp2_with fail
      refine (hTi.out _ _ _ OX3.rd).mono ?_
      rintro e w11 ⟨A6, c6, rfl, own, hb⟩
      clear ebX30 ebX31 ebX32 zbX3
      replace OX3 := OX3.all hb
      replace bX3 := bX3.all hb
      replace R := R.all hb HB.size
      have OT1 := own.mono HB.size
      clear own
      replace HB := HB.trans (hb.mono HB.size)
      clear hb
      replace OX3 := OX3.alloc (.cells #[.int .i64 tW, .int .i64 tH, .slice A6 ts.length c6] 26)
      replace OT1 := OT1.alloc (.cells #[.int .i64 tW, .int .i64 tH, .slice A6 ts.length c6] 26)
      replace bX3 := bX3.alloc (.cells #[.int .i64 tW, .int .i64 tH, .slice A6 ts.length c6] 26)
      replace R := R.alloc HB.size (.cells #[.int .i64 tW, .int .i64 tH, .slice A6 ts.length c6] 26)
      have bT1 := Blk.new w11 #[.int .i64 tW, .int .i64 tH, .slice A6 ts.length c6] 26
      replace HB := HB.alloc HB.size (.cells #[.int .i64 tW, .int .i64 tH, .slice A6 ts.length c6] 26)
      have ebX30 := bX3.cell 0
      have ebX31 := bX3.cell 1
      have ebX32 := bX3.cell 2
      have zbX3 := bX3.lt
      have ebT10 := bT1.cell 0
      have ebT11 := bT1.cell 1
      have ebT12 := bT1.cell 2
      have zbT1 := bT1.lt
      go_wp2_with fail
      refine (hTs.out _ _ _ OX3.rd).mono ?_
      rintro e w12 ⟨A7, c7, rfl, own, hb⟩
      clear ebX30 ebX31 ebX32 zbX3 ebT10 ebT11 ebT12 zbT1
      replace OX3 := OX3.all hb
      replace OT1 := OT1.all hb
      replace bX3 := bX3.all hb
      replace bT1 := bT1.all hb
      replace R := R.all hb HB.size
      have OT2 := own.mono HB.size
      clear own
      replace HB := HB.trans (hb.mono HB.size)
      clear hb
      replace OX3 := OX3.alloc (.cells #[.int .i64 tW, .int .i64 tH, .slice A7 ts.length c7] 26)
      replace OT1 := OT1.alloc (.cells #[.int .i64 tW, .int .i64 tH, .slice A7 ts.length c7] 26)
      replace OT2 := OT2.alloc (.cells #[.int .i64 tW, .int .i64 tH, .slice A7 ts.length c7] 26)
      replace bX3 := bX3.alloc (.cells #[.int .i64 tW, .int .i64 tH, .slice A7 ts.length c7] 26)
      replace bT1 := bT1.alloc (.cells #[.int .i64 tW, .int .i64 tH, .slice A7 ts.length c7] 26)
      replace R := R.alloc HB.size (.cells #[.int .i64 tW, .int .i64 tH, .slice A7 ts.length c7] 26)
      have bT2 := Blk.new w12 #[.int .i64 tW, .int .i64 tH, .slice A7 ts.length c7] 26
      replace HB := HB.alloc HB.size (.cells #[.int .i64 tW, .int .i64 tH, .slice A7 ts.length c7] 26)
      have ebX30 := bX3.cell 0
      have ebX31 := bX3.cell 1
      have ebX32 := bX3.cell 2
      have zbX3 := bX3.lt
      have ebT10 := bT1.cell 0
      have ebT11 := bT1.cell 1
      have ebT12 := bT1.cell 2
      have zbT1 := bT1.lt
      have ebT20 := bT2.cell 0
      have ebT21 := bT2.cell 1
      have ebT22 := bT2.cell 2
      have zbT2 := bT2.lt
      go_wp2_with fail
      refine (vChart_same tW tH _ _ _ _ _ _ _ _ ts _ OT1.rd OT2.rd (Nat.le_refl _) (Nat.le_refl _)).mono ?_
      rintro e w13 ⟨rfl, hb⟩
      clear ebX30 ebX31 ebX32 zbX3 ebT10 ebT11 ebT12 zbT1 ebT20 ebT21 ebT22 zbT2
      replace OX3 := OX3.all hb
      replace OT1 := OT1.all hb
      replace OT2 := OT2.all hb
      replace bX3 := bX3.all hb
      replace bT1 := bT1.all hb
      replace bT2 := bT2.all hb
      replace R := R.all hb HB.size
      replace HB := HB.trans (hb.mono HB.size)
      clear hb
      clear hTi hTs ht3 htW htH hts hsm3 OX3 bX3 OT1 bT1 OT2 bT2
      go_wp2_with fail
      refine (drawMirrorChart_any A n c w.heap.size _ R HB.size hn).mono ?_
      rintro e w14 ⟨W4, H4, A8, c8, xs4, rfl, hsm4, own, hb⟩
      replace R := R.all hb HB.size
      have OX4 := own.mono HB.size
      clear own
      replace HB := HB.trans (hb.mono HB.size)
      clear hb
      replace OX4 := OX4.alloc (.cells #[.int .i64 W4, .int .i64 H4, .slice A8 xs4.length c8] 26)
      replace R := R.alloc HB.size (.cells #[.int .i64 W4, .int .i64 H4, .slice A8 xs4.length c8] 26)
      have bX4 := Blk.new w14 #[.int .i64 W4, .int .i64 H4, .slice A8 xs4.length c8] 26
      replace HB := HB.alloc HB.size (.cells #[.int .i64 W4, .int .i64 H4, .slice A8 xs4.length c8] 26)
      obtain ⟨t4, ht4⟩ : ∃ b, goodB W4 H4 xs4 = b := ⟨_, rfl⟩
      obtain ⟨mW, hmW⟩ : ∃ b, orZero t4 (W4.toNat : Int) = b := ⟨_, rfl⟩
      obtain ⟨mH, hmH⟩ : ∃ b, orZero t4 (H4.toNat : Int) = b := ⟨_, rfl⟩
      obtain ⟨ms, hms⟩ : ∃ b, (if t4 = true then mirrorL W4.toNat H4.toNat xs4 else []) = b := ⟨_, rfl⟩
      have hMi : Hid (∀ (w : World) (A : Option Addr) (c : Nat), Rd w w.heap.size A xs4.length c xs4 → Calls Try.prog 48 #[chartV W4 H4 (.slice A xs4.length c)] w (OutChart w mW mH ms t4)) := Lib.hid fun w A c h => (by have := implMirrorChart_any W4 H4 A _ c _ xs4 w h (Nat.le_refl _); rw [ht4, hmW, hmH, hms] at this; exact this)
      have hMs : Hid (∀ (w : World) (A : Option Addr) (c : Nat), Rd w w.heap.size A xs4.length c xs4 → Calls Try.prog 49 #[chartV W4 H4 (.slice A xs4.length c)] w (OutChart w mW mH ms t4)) := Lib.hid fun w A c h => (by have := specMirrorChart_any W4 H4 A _ c _ xs4 w h (Nat.le_refl _); rw [ht4, hmW, hmH, hms] at this; exact this)
      have ebX40 := bX4.cell 0
      have ebX41 := bX4.cell 1
      have ebX42 := bX4.cell 2
      have zbX4 := bX4.lt
      go_wp2_with fail
      refine (hMi.out _ _ _ OX4.rd).mono ?_
      rintro e w15 ⟨A9, c9, rfl, own, hb⟩
      clear ebX40 ebX41 ebX42 zbX4
      replace OX4 := OX4.all hb
      replace bX4 := bX4.all hb
      replace R := R.all hb HB.size
      have OM1 := own.mono HB.size
      clear own
      replace HB := HB.trans (hb.mono HB.size)
      clear hb
      replace OX4 := OX4.alloc (.cells #[.int .i64 mW, .int .i64 mH, .slice A9 ms.length c9] 26)
      replace OM1 := OM1.alloc (.cells #[.int .i64 mW, .int .i64 mH, .slice A9 ms.length c9] 26)
      replace bX4 := bX4.alloc (.cells #[.int .i64 mW, .int .i64 mH, .slice A9 ms.length c9] 26)
      replace R := R.alloc HB.size (.cells #[.int .i64 mW, .int .i64 mH, .slice A9 ms.length c9] 26)
      have bM1 := Blk.new w15 #[.int .i64 mW, .int .i64 mH, .slice A9 ms.length c9] 26
      replace HB := HB.alloc HB.size (.cells #[.int .i64 mW, .int .i64 mH, .slice A9 ms.length c9] 26)
      have ebX40 := bX4.cell 0
      have ebX41 := bX4.cell 1
      have ebX42 := bX4.cell 2
      have zbX4 := bX4.lt
      have ebM10 := bM1.cell 0
      have ebM11 := bM1.cell 1
      have ebM12 := bM1.cell 2
      have zbM1 := bM1.lt
      go_wp2_with fail
      refine (hMs.out _ _ _ OX4.rd).mono ?_
      rintro e w16 ⟨A10, c10, rfl, own, hb⟩
      clear ebX40 ebX41 ebX42 zbX4 ebM10 ebM11 ebM12 zbM1
      replace OX4 := OX4.all hb
      replace OM1 := OM1.all hb
      replace bX4 := bX4.all hb
      replace bM1 := bM1.all hb
      replace R := R.all hb HB.size
      have OM2 := own.mono HB.size
      clear own
      replace HB := HB.trans (hb.mono HB.size)
      clear hb
      replace OX4 := OX4.alloc (.cells #[.int .i64 mW, .int .i64 mH, .slice A10 ms.length c10] 26)
      replace OM1 := OM1.alloc (.cells #[.int .i64 mW, .int .i64 mH, .slice A10 ms.length c10] 26)
      replace OM2 := OM2.alloc (.cells #[.int .i64 mW, .int .i64 mH, .slice A10 ms.length c10] 26)
      replace bX4 := bX4.alloc (.cells #[.int .i64 mW, .int .i64 mH, .slice A10 ms.length c10] 26)
      replace bM1 := bM1.alloc (.cells #[.int .i64 mW, .int .i64 mH, .slice A10 ms.length c10] 26)
      replace R := R.alloc HB.size (.cells #[.int .i64 mW, .int .i64 mH, .slice A10 ms.length c10] 26)
      have bM2 := Blk.new w16 #[.int .i64 mW, .int .i64 mH, .slice A10 ms.length c10] 26
      replace HB := HB.alloc HB.size (.cells #[.int .i64 mW, .int .i64 mH, .slice A10 ms.length c10] 26)
      have ebX40 := bX4.cell 0
      have ebX41 := bX4.cell 1
      have ebX42 := bX4.cell 2
      have zbX4 := bX4.lt
      have ebM10 := bM1.cell 0
      have ebM11 := bM1.cell 1
      have ebM12 := bM1.cell 2
      have zbM1 := bM1.lt
      have ebM20 := bM2.cell 0
      have ebM21 := bM2.cell 1
      have ebM22 := bM2.cell 2
      have zbM2 := bM2.lt
      go_wp2_with fail
      refine (vChart_same mW mH _ _ _ _ _ _ _ _ ms _ OM1.rd OM2.rd (Nat.le_refl _) (Nat.le_refl _)).mono ?_
      rintro e w17 ⟨rfl, hb⟩
      clear ebX40 ebX41 ebX42 zbX4 ebM10 ebM11 ebM12 zbM1 ebM20 ebM21 ebM22 zbM2
      replace OX4 := OX4.all hb
      replace OM1 := OM1.all hb
      replace OM2 := OM2.all hb
      replace bX4 := bX4.all hb
      replace bM1 := bM1.all hb
      replace bM2 := bM2.all hb
      replace R := R.all hb HB.size
      replace HB := HB.trans (hb.mono HB.size)
      clear hb
      cases t4
      · clear hMi hMs ht4 hmW hmH hms
        go_wp2
        go_ret
        exact ⟨rfl, HB⟩
      · skip
        have hmg := mirror_good ht4
        have hwh := goodB_yes ht4
        have eW : mW = W4 := by rw [← hmW]; show (W4.toNat : Int) = W4; omega
        have eH : mH = H4 := by rw [← hmH]; show (H4.toNat : Int) = H4; omega
        have es : mirrorL W4.toNat H4.toNat xs4 = ms := by rw [← hms]; rfl
        rw [es] at hmg
        subst eW
        subst eH
        clear hmW hmH hms es hMi hMs
        have hMM : Hid (∀ (w : World) (A : Option Addr) (c : Nat), Rd w w.heap.size A ms.length c ms → Calls Try.prog 48 #[chartV mW mH (.slice A ms.length c)] w (OutChart w mW mH xs4 true)) := Lib.hid fun w A c h => (by have := implMirrorChart_any mW mH A _ c _ ms w h (Nat.le_refl _); rw [hmg.1, if_pos rfl, hmg.2, show orZero true (mW.toNat : Int) = mW from (show (mW.toNat : Int) = mW by omega), show orZero true (mH.toNat : Int) = mH from (show (mH.toNat : Int) = mH by omega)] at this; exact this)
        clear hmg hwh ht4
        have ebX40 := bX4.cell 0
        have ebX41 := bX4.cell 1
        have ebX42 := bX4.cell 2
        have zbX4 := bX4.lt
        have ebM10 := bM1.cell 0
        have ebM11 := bM1.cell 1
        have ebM12 := bM1.cell 2
        have zbM1 := bM1.lt
        have ebM20 := bM2.cell 0
        have ebM21 := bM2.cell 1
        have ebM22 := bM2.cell 2
        have zbM2 := bM2.lt
        go_wp2_with fail
        refine (hMM.out _ _ _ OM1.rd).mono ?_
        rintro e w18 ⟨A11, c11, rfl, own, hb⟩
        clear ebX40 ebX41 ebX42 zbX4 ebM10 ebM11 ebM12 zbM1 ebM20 ebM21 ebM22 zbM2
        replace OX4 := OX4.all hb
        replace OM1 := OM1.all hb
        replace OM2 := OM2.all hb
        replace bX4 := bX4.all hb
        replace bM1 := bM1.all hb
        replace bM2 := bM2.all hb
        replace R := R.all hb HB.size
        have OB := own.mono HB.size
        clear own
        replace HB := HB.trans (hb.mono HB.size)
        clear hb
        replace OX4 := OX4.alloc (.cells #[.int .i64 mW, .int .i64 mH, .slice A11 xs4.length c11] 26)
        replace OM1 := OM1.alloc (.cells #[.int .i64 mW, .int .i64 mH, .slice A11 xs4.length c11] 26)
        replace OM2 := OM2.alloc (.cells #[.int .i64 mW, .int .i64 mH, .slice A11 xs4.length c11] 26)
        replace OB := OB.alloc (.cells #[.int .i64 mW, .int .i64 mH, .slice A11 xs4.length c11] 26)
        replace bX4 := bX4.alloc (.cells #[.int .i64 mW, .int .i64 mH, .slice A11 xs4.length c11] 26)
        replace bM1 := bM1.alloc (.cells #[.int .i64 mW, .int .i64 mH, .slice A11 xs4.length c11] 26)
        replace bM2 := bM2.alloc (.cells #[.int .i64 mW, .int .i64 mH, .slice A11 xs4.length c11] 26)
        replace R := R.alloc HB.size (.cells #[.int .i64 mW, .int .i64 mH, .slice A11 xs4.length c11] 26)
        have bB := Blk.new w18 #[.int .i64 mW, .int .i64 mH, .slice A11 xs4.length c11] 26
        replace HB := HB.alloc HB.size (.cells #[.int .i64 mW, .int .i64 mH, .slice A11 xs4.length c11] 26)
        have ebX40 := bX4.cell 0
        have ebX41 := bX4.cell 1
        have ebX42 := bX4.cell 2
        have zbX4 := bX4.lt
        have ebM10 := bM1.cell 0
        have ebM11 := bM1.cell 1
        have ebM12 := bM1.cell 2
        have zbM1 := bM1.lt
        have ebM20 := bM2.cell 0
        have ebM21 := bM2.cell 1
        have ebM22 := bM2.cell 2
        have zbM2 := bM2.lt
        have ebB0 := bB.cell 0
        have ebB1 := bB.cell 1
        have ebB2 := bB.cell 2
        have zbB := bB.lt
        go_wp2_with fail
        refine (vChart_same mW mH _ _ _ _ _ _ _ _ xs4 _ OB.rd OX4.rd (Nat.le_refl _) (Nat.le_refl _)).mono ?_
        rintro e w19 ⟨rfl, hb⟩
        clear ebX40 ebX41 ebX42 zbX4 ebM10 ebM11 ebM12 zbM1 ebM20 ebM21 ebM22 zbM2 ebB0 ebB1 ebB2 zbB
        replace OX4 := OX4.all hb
        replace OM1 := OM1.all hb
        replace OM2 := OM2.all hb
        replace OB := OB.all hb
        replace bX4 := bX4.all hb
        replace bM1 := bM1.all hb
        replace bM2 := bM2.all hb
        replace bB := bB.all hb
        replace R := R.all hb HB.size
        replace HB := HB.trans (hb.mono HB.size)
        clear hb
        go_wp2
        go_ret
        exact ⟨rfl, HB⟩
    · skip
      obtain ⟨f1, f2, f3, f4, f5⟩ := comp_facts hok
      rw [hys] at f1 f2 f3 f4 f5
      have eW : cW = W1 := hcW.symm
      have eH : cH = H1 := hcH.symm
      subst eW
      subst eH
      have hne : nf = ((chTo xs1 ys xs1.length : Nat) : Int) := by rw [← hnf, ← hys]; unfold fewN compX; rw [if_pos hok, if_pos hok]
      have HNE := Lib.hid hne
      have HLE := Lib.hid f5
      have hH2 : Hid (∀ (w : World) (A : Option Addr) (c : Nat), Rd w w.heap.size A ys.length c ys → Calls Try.prog 41 #[chartV cW cH (.slice A ys.length c), .int .i64 s1] w (Out w (.tuple #[.bool true, .bool true]))) := Lib.hid fun w A c h => (by have := implHasSymmetry_any cW cH A _ c _ ys s1 w h (Nat.le_refl _); rw [f1, f2] at this; exact this)
      have hF2 : Hid (∀ (w : World) (A : Option Addr) (c : Nat), Rd w w.heap.size A ys.length c ys → Calls Try.prog 39 #[chartV cW cH (.slice A ys.length c), .int .i64 s1] w (Out w (.tuple #[.int .i64 0, .bool true]))) := Lib.hid fun w A c h => (by have := implFewestChanges_any cW cH A _ c _ ys s1 w h (Nat.le_refl _); rw [f4, f3] at this; exact this)
      have hx1000 := hsm1.1
      clear hok hcW hcH hys hnf hne f1 f2 f3 f4 f5 hs1 hsm1
      have ebX10 := bX1.cell 0
      have ebX11 := bX1.cell 1
      have ebX12 := bX1.cell 2
      have zbX1 := bX1.lt
      have ebC10 := bC1.cell 0
      have ebC11 := bC1.cell 1
      have ebC12 := bC1.cell 2
      have zbC1 := bC1.lt
      go_wp2_with fail
      refine (hH2.out _ _ _ OC1.rd).mono ?_
      rintro e w7 ⟨rfl, hb⟩
      clear ebX10 ebX11 ebX12 zbX1 ebC10 ebC11 ebC12 zbC1
      replace OX1 := OX1.all hb
      replace OC1 := OC1.all hb
      replace bX1 := bX1.all hb
      replace bC1 := bC1.all hb
      replace R := R.all hb HB.size
      replace HB := HB.trans (hb.mono HB.size)
      clear hb
      have ebX10 := bX1.cell 0
      have ebX11 := bX1.cell 1
      have ebX12 := bX1.cell 2
      have zbX1 := bX1.lt
      have ebC10 := bC1.cell 0
      have ebC11 := bC1.cell 1
      have ebC12 := bC1.cell 2
      have zbC1 := bC1.lt
      go_wp2_with fail
      refine (hF2.out _ _ _ OC1.rd).mono ?_
      rintro e w8 ⟨rfl, hb⟩
      clear ebX10 ebX11 ebX12 zbX1 ebC10 ebC11 ebC12 zbC1
      replace OX1 := OX1.all hb
      replace OC1 := OC1.all hb
      replace bX1 := bX1.all hb
      replace bC1 := bC1.all hb
      replace R := R.all hb HB.size
      replace HB := HB.trans (hb.mono HB.size)
      clear hb
      clear hH2 hF2
      have ex2 := bX1.cell 2
      have ec2 := bC1.cell 2
      go_wp2
      go_loopw [17, 18] (fun s17 s18 wr => ∃ u q : Nat, u ≤ xs1.length ∧ s18 = .int .i64 u ∧ s17 = .int .i64 ((chTo xs1 ys u : Nat) : Int) ∧ wr = w8.drewN q) (fun _ s18 _ => xs1.length - (intOf s18).toNat)
      case atStart => exact ⟨0, 0, Nat.zero_le _, rfl, rfl, rfl⟩
      case round =>
        obtain ⟨u, q, hu, rfl, rfl, rfl⟩ := hrel
        have hch := chTo_le xs1 ys u
        by_cases hul : u < xs1.length
        · have hul2 : u < ys.length := by rw [HLE.out]; exact hul
          obtain ⟨b1, o1, x, rfl, _, hx, _, _, HX⟩ := OX1.rd.at hul
          obtain ⟨b2, o2, y, rfl, _, hy, _, _, HY⟩ := OC1.rd.at hul2
          by_cases hxy : x = y
          · have heq : (x != y) = false := by simpa using hxy
            have HS := Lib.hid (chTo_yes (xs := xs1) (ys := ys) (j := u) (by rw [HY.out, HX.out]; exact hxy.symm))
            clear hxy
            go_wp2
            go_quiet (fail)
            go_wp2
            go_roundw
            case rel => exact ⟨u + 1, _, by omega, by go_num, by rw [HS.out], rfl⟩
            case measure => simp [intOf]; omega
          · have hne : (x != y) = true := by simpa using hxy
            have HS := Lib.hid (chTo_no (xs := xs1) (ys := ys) (j := u) (by rw [HY.out, HX.out]; exact fun e => hxy e.symm))
            go_wp2
            go_quiet (fail)
            go_wp2
            go_roundw
            case rel => exact ⟨u + 1, _, by omega, by go_num, by rw [HS.out]; go_num, rfl⟩
            case measure => simp [intOf]; omega
        · obtain rfl : u = xs1.length := by omega
          have hD := low_drewN w8 q
          replace R := R.all hD HB.size
          replace HB := HB.trans (hD.mono HB.size)
          rw [HNE.out]
          have ex2z := (bX1.all hD).cell 2
          clear hD ex2 ec2 bX1 bC1 OX1 OC1 HNE HLE hch hx1000
          generalize w8.drewN q = wz at *
          go_wp2_with fail
          refine (drawHasSymmetry_any A n c w.heap.size _ R HB.size hn).mono ?_
          rintro e w9 ⟨W2, H2, A4, c4, xs2, s2, rfl, hsm2, hs2, own, hb⟩
          replace R := R.all hb HB.size
          have OX2 := own.mono HB.size
          clear own
          replace HB := HB.trans (hb.mono HB.size)
          clear hb
          replace OX2 := OX2.alloc (.cells #[.int .i64 W2, .int .i64 H2, .slice A4 xs2.length c4] 26)
          replace R := R.alloc HB.size (.cells #[.int .i64 W2, .int .i64 H2, .slice A4 xs2.length c4] 26)
          have bX2 := Blk.new w9 #[.int .i64 W2, .int .i64 H2, .slice A4 xs2.length c4] 26
          replace HB := HB.alloc HB.size (.cells #[.int .i64 W2, .int .i64 H2, .slice A4 xs2.length c4] 26)
          obtain ⟨hv, hhv⟩ : ∃ b, hasB W2 H2 xs2 s2 = b := ⟨_, rfl⟩
          obtain ⟨mv, hmv⟩ : ∃ b, moveOk W2 H2 xs2 s2 = b := ⟨_, rfl⟩
          have hHi : Hid (∀ (w : World) (A : Option Addr) (c : Nat), Rd w w.heap.size A xs2.length c xs2 → Calls Try.prog 41 #[chartV W2 H2 (.slice A xs2.length c), .int .i64 s2] w (Out w (.tuple #[.bool hv, .bool mv]))) := Lib.hid fun w A c h => (by have := implHasSymmetry_any W2 H2 A _ c _ xs2 s2 w h (Nat.le_refl _); rw [hhv, hmv] at this; exact this)
          have hHs : Hid (∀ (w : World) (A : Option Addr) (c : Nat), Rd w w.heap.size A xs2.length c xs2 → Calls Try.prog 43 #[chartV W2 H2 (.slice A xs2.length c), .int .i64 s2] w (Out w (.tuple #[.bool hv, .bool mv]))) := Lib.hid fun w A c h => (by have := specHasSymmetry_any W2 H2 A _ c _ xs2 s2 w h (Nat.le_refl _); rw [hhv, hmv] at this; exact this)
          have ebX20 := bX2.cell 0
          have ebX21 := bX2.cell 1
          have ebX22 := bX2.cell 2
          have zbX2 := bX2.lt
          go_wp2_with fail
          refine (hHi.out _ _ _ OX2.rd).mono ?_
          rintro e w10 ⟨rfl, hb⟩
          clear ebX20 ebX21 ebX22 zbX2
          replace OX2 := OX2.all hb
          replace bX2 := bX2.all hb
          replace R := R.all hb HB.size
          replace HB := HB.trans (hb.mono HB.size)
          clear hb
          have ebX20 := bX2.cell 0
          have ebX21 := bX2.cell 1
          have ebX22 := bX2.cell 2
          have zbX2 := bX2.lt
          go_wp2_with fail
          refine (hHs.out _ _ _ OX2.rd).mono ?_
          rintro e w11 ⟨rfl, hb⟩
          clear ebX20 ebX21 ebX22 zbX2
          replace OX2 := OX2.all hb
          replace bX2 := bX2.all hb
          replace R := R.all hb HB.size
          replace HB := HB.trans (hb.mono HB.size)
          clear hb
          clear hHi hHs hhv hmv hsm2 hs2 OX2 bX2
          go_wp2_with fail
          refine (drawTurnChart_any A n c w.heap.size _ R HB.size hn).mono ?_
          rintro e w12 ⟨W3, H3, A5, c5, xs3, rfl, hsm3, own, hb⟩
          replace R := R.all hb HB.size
          have OX3 := own.mono HB.size
          clear own
          replace HB := HB.trans (hb.mono HB.size)
          clear hb
          replace OX3 := OX3.alloc (.cells #[.int .i64 W3, .int .i64 H3, .slice A5 xs3.length c5] 26)
          replace R := R.alloc HB.size (.cells #[.int .i64 W3, .int .i64 H3, .slice A5 xs3.length c5] 26)
          have bX3 := Blk.new w12 #[.int .i64 W3, .int .i64 H3, .slice A5 xs3.length c5] 26
          replace HB := HB.alloc HB.size (.cells #[.int .i64 W3, .int .i64 H3, .slice A5 xs3.length c5] 26)
          obtain ⟨t3, ht3⟩ : ∃ b, goodB W3 H3 xs3 = b := ⟨_, rfl⟩
          obtain ⟨tW, htW⟩ : ∃ b, orZero t3 (H3.toNat : Int) = b := ⟨_, rfl⟩
          obtain ⟨tH, htH⟩ : ∃ b, orZero t3 (W3.toNat : Int) = b := ⟨_, rfl⟩
          obtain ⟨ts, hts⟩ : ∃ b, (if t3 = true then turnL W3.toNat H3.toNat xs3 else []) = b := ⟨_, rfl⟩
          have hTi : Hid (∀ (w : World) (A : Option Addr) (c : Nat), Rd w w.heap.size A xs3.length c xs3 → Calls Try.prog 45 #[chartV W3 H3 (.slice A xs3.length c)] w (OutChart w tW tH ts t3)) := Lib.hid fun w A c h => (by have := implTurnChart_any W3 H3 A _ c _ xs3 w h (Nat.le_refl _); rw [ht3, htW, htH, hts] at this; exact this)
          have hTs : Hid (∀ (w : World) (A : Option Addr) (c : Nat), Rd w w.heap.size A xs3.length c xs3 → Calls Try.prog 46 #[chartV W3 H3 (.slice A xs3.length c)] w (OutChart w tW tH ts t3)) := Lib.hid fun w A c h => (by have := specTurnChart_any W3 H3 A _ c _ xs3 w h (Nat.le_refl _); rw [ht3, htW, htH, hts] at this; exact this)
          have ebX30 := bX3.cell 0
          have ebX31 := bX3.cell 1
          have ebX32 := bX3.cell 2
          have zbX3 := bX3.lt
          go_wp2_with fail
          refine (hTi.out _ _ _ OX3.rd).mono ?_
          rintro e w13 ⟨A6, c6, rfl, own, hb⟩
          clear ebX30 ebX31 ebX32 zbX3
          replace OX3 := OX3.all hb
          replace bX3 := bX3.all hb
          replace R := R.all hb HB.size
          have OT1 := own.mono HB.size
          clear own
          replace HB := HB.trans (hb.mono HB.size)
          clear hb
          replace OX3 := OX3.alloc (.cells #[.int .i64 tW, .int .i64 tH, .slice A6 ts.length c6] 26)
          replace OT1 := OT1.alloc (.cells #[.int .i64 tW, .int .i64 tH, .slice A6 ts.length c6] 26)
          replace bX3 := bX3.alloc (.cells #[.int .i64 tW, .int .i64 tH, .slice A6 ts.length c6] 26)
          replace R := R.alloc HB.size (.cells #[.int .i64 tW, .int .i64 tH, .slice A6 ts.length c6] 26)
          have bT1 := Blk.new w13 #[.int .i64 tW, .int .i64 tH, .slice A6 ts.length c6] 26
          replace HB := HB.alloc HB.size (.cells #[.int .i64 tW, .int .i64 tH, .slice A6 ts.length c6] 26)
          have ebX30 := bX3.cell 0
          have ebX31 := bX3.cell 1
          have ebX32 := bX3.cell 2
          have zbX3 := bX3.lt
          have ebT10 := bT1.cell 0
          have ebT11 := bT1.cell 1
          have ebT12 := bT1.cell 2
          have zbT1 := bT1.lt
          go_wp2_with fail
          refine (hTs.out _ _ _ OX3.rd).mono ?_
          rintro e w14 ⟨A7, c7, rfl, own, hb⟩
          clear ebX30 ebX31 ebX32 zbX3 ebT10 ebT11 ebT12 zbT1
          replace OX3 := OX3.all hb
          replace OT1 := OT1.all hb
          replace bX3 := bX3.all hb
          replace bT1 := bT1.all hb
          replace R := R.all hb HB.size
          have OT2 := own.mono HB.size
          clear own
          replace HB := HB.trans (hb.mono HB.size)
          clear hb
          replace OX3 := OX3.alloc (.cells #[.int .i64 tW, .int .i64 tH, .slice A7 ts.length c7] 26)
          replace OT1 := OT1.alloc (.cells #[.int .i64 tW, .int .i64 tH, .slice A7 ts.length c7] 26)
          replace OT2 := OT2.alloc (.cells #[.int .i64 tW, .int .i64 tH, .slice A7 ts.length c7] 26)
          replace bX3 := bX3.alloc (.cells #[.int .i64 tW, .int .i64 tH, .slice A7 ts.length c7] 26)
          replace bT1 := bT1.alloc (.cells #[.int .i64 tW, .int .i64 tH, .slice A7 ts.length c7] 26)
          replace R := R.alloc HB.size (.cells #[.int .i64 tW, .int .i64 tH, .slice A7 ts.length c7] 26)
          have bT2 := Blk.new w14 #[.int .i64 tW, .int .i64 tH, .slice A7 ts.length c7] 26
          replace HB := HB.alloc HB.size (.cells #[.int .i64 tW, .int .i64 tH, .slice A7 ts.length c7] 26)
          have ebX30 := bX3.cell 0
          have ebX31 := bX3.cell 1
          have ebX32 := bX3.cell 2
          have zbX3 := bX3.lt
          have ebT10 := bT1.cell 0
          have ebT11 := bT1.cell 1
          have ebT12 := bT1.cell 2
          have zbT1 := bT1.lt
          have ebT20 := bT2.cell 0
          have ebT21 := bT2.cell 1
          have ebT22 := bT2.cell 2
          have zbT2 := bT2.lt
          go_wp2_with fail
          refine (vChart_same tW tH _ _ _ _ _ _ _ _ ts _ OT1.rd OT2.rd (Nat.le_refl _) (Nat.le_refl _)).mono ?_
          rintro e w15 ⟨rfl, hb⟩
          clear ebX30 ebX31 ebX32 zbX3 ebT10 ebT11 ebT12 zbT1 ebT20 ebT21 ebT22 zbT2
          replace OX3 := OX3.all hb
          replace OT1 := OT1.all hb
          replace OT2 := OT2.all hb
          replace bX3 := bX3.all hb
          replace bT1 := bT1.all hb
          replace bT2 := bT2.all hb
          replace R := R.all hb HB.size
          replace HB := HB.trans (hb.mono HB.size)
          clear hb
          clear hTi hTs ht3 htW htH hts hsm3 OX3 bX3 OT1 bT1 OT2 bT2
          go_wp2_with fail
          refine (drawMirrorChart_any A n c w.heap.size _ R HB.size hn).mono ?_
          rintro e w16 ⟨W4, H4, A8, c8, xs4, rfl, hsm4, own, hb⟩
          replace R := R.all hb HB.size
          have OX4 := own.mono HB.size
          clear own
          replace HB := HB.trans (hb.mono HB.size)
          clear hb
          replace OX4 := OX4.alloc (.cells #[.int .i64 W4, .int .i64 H4, .slice A8 xs4.length c8] 26)
          replace R := R.alloc HB.size (.cells #[.int .i64 W4, .int .i64 H4, .slice A8 xs4.length c8] 26)
          have bX4 := Blk.new w16 #[.int .i64 W4, .int .i64 H4, .slice A8 xs4.length c8] 26
          replace HB := HB.alloc HB.size (.cells #[.int .i64 W4, .int .i64 H4, .slice A8 xs4.length c8] 26)
          obtain ⟨t4, ht4⟩ : ∃ b, goodB W4 H4 xs4 = b := ⟨_, rfl⟩
          obtain ⟨mW, hmW⟩ : ∃ b, orZero t4 (W4.toNat : Int) = b := ⟨_, rfl⟩
          obtain ⟨mH, hmH⟩ : ∃ b, orZero t4 (H4.toNat : Int) = b := ⟨_, rfl⟩
          obtain ⟨ms, hms⟩ : ∃ b, (if t4 = true then mirrorL W4.toNat H4.toNat xs4 else []) = b := ⟨_, rfl⟩
          have hMi : Hid (∀ (w : World) (A : Option Addr) (c : Nat), Rd w w.heap.size A xs4.length c xs4 → Calls Try.prog 48 #[chartV W4 H4 (.slice A xs4.length c)] w (OutChart w mW mH ms t4)) := Lib.hid fun w A c h => (by have := implMirrorChart_any W4 H4 A _ c _ xs4 w h (Nat.le_refl _); rw [ht4, hmW, hmH, hms] at this; exact this)
          have hMs : Hid (∀ (w : World) (A : Option Addr) (c : Nat), Rd w w.heap.size A xs4.length c xs4 → Calls Try.prog 49 #[chartV W4 H4 (.slice A xs4.length c)] w (OutChart w mW mH ms t4)) := Lib.hid fun w A c h => (by have := specMirrorChart_any W4 H4 A _ c _ xs4 w h (Nat.le_refl _); rw [ht4, hmW, hmH, hms] at this; exact this)
          have ebX40 := bX4.cell 0
          have ebX41 := bX4.cell 1
          have ebX42 := bX4.cell 2
          have zbX4 := bX4.lt
          go_wp2_with fail
          refine (hMi.out _ _ _ OX4.rd).mono ?_
          rintro e w17 ⟨A9, c9, rfl, own, hb⟩
          clear ebX40 ebX41 ebX42 zbX4
          replace OX4 := OX4.all hb
          replace bX4 := bX4.all hb
          replace R := R.all hb HB.size
          have OM1 := own.mono HB.size
          clear own
          replace HB := HB.trans (hb.mono HB.size)
          clear hb
          replace OX4 := OX4.alloc (.cells #[.int .i64 mW, .int .i64 mH, .slice A9 ms.length c9] 26)
          replace OM1 := OM1.alloc (.cells #[.int .i64 mW, .int .i64 mH, .slice A9 ms.length c9] 26)
          replace bX4 := bX4.alloc (.cells #[.int .i64 mW, .int .i64 mH, .slice A9 ms.length c9] 26)
          replace R := R.alloc HB.size (.cells #[.int .i64 mW, .int .i64 mH, .slice A9 ms.length c9] 26)
          have bM1 := Blk.new w17 #[.int .i64 mW, .int .i64 mH, .slice A9 ms.length c9] 26
          replace HB := HB.alloc HB.size (.cells #[.int .i64 mW, .int .i64 mH, .slice A9 ms.length c9] 26)
          have ebX40 := bX4.cell 0
          have ebX41 := bX4.cell 1
          have ebX42 := bX4.cell 2
          have zbX4 := bX4.lt
          have ebM10 := bM1.cell 0
          have ebM11 := bM1.cell 1
          have ebM12 := bM1.cell 2
          have zbM1 := bM1.lt
          go_wp2_with fail
          refine (hMs.out _ _ _ OX4.rd).mono ?_
          rintro e w18 ⟨A10, c10, rfl, own, hb⟩
          clear ebX40 ebX41 ebX42 zbX4 ebM10 ebM11 ebM12 zbM1
          replace OX4 := OX4.all hb
          replace OM1 := OM1.all hb
          replace bX4 := bX4.all hb
          replace bM1 := bM1.all hb
          replace R := R.all hb HB.size
          have OM2 := own.mono HB.size
          clear own
          replace HB := HB.trans (hb.mono HB.size)
          clear hb
          replace OX4 := OX4.alloc (.cells #[.int .i64 mW, .int .i64 mH, .slice A10 ms.length c10] 26)
          replace OM1 := OM1.alloc (.cells #[.int .i64 mW, .int .i64 mH, .slice A10 ms.length c10] 26)
          replace OM2 := OM2.alloc (.cells #[.int .i64 mW, .int .i64 mH, .slice A10 ms.length c10] 26)
          replace bX4 := bX4.alloc (.cells #[.int .i64 mW, .int .i64 mH, .slice A10 ms.length c10] 26)
          replace bM1 := bM1.alloc (.cells #[.int .i64 mW, .int .i64 mH, .slice A10 ms.length c10] 26)
          replace R := R.alloc HB.size (.cells #[.int .i64 mW, .int .i64 mH, .slice A10 ms.length c10] 26)
          have bM2 := Blk.new w18 #[.int .i64 mW, .int .i64 mH, .slice A10 ms.length c10] 26
          replace HB := HB.alloc HB.size (.cells #[.int .i64 mW, .int .i64 mH, .slice A10 ms.length c10] 26)
          have ebX40 := bX4.cell 0
          have ebX41 := bX4.cell 1
          have ebX42 := bX4.cell 2
          have zbX4 := bX4.lt
          have ebM10 := bM1.cell 0
          have ebM11 := bM1.cell 1
          have ebM12 := bM1.cell 2
          have zbM1 := bM1.lt
          have ebM20 := bM2.cell 0
          have ebM21 := bM2.cell 1
          have ebM22 := bM2.cell 2
          have zbM2 := bM2.lt
          go_wp2_with fail
          refine (vChart_same mW mH _ _ _ _ _ _ _ _ ms _ OM1.rd OM2.rd (Nat.le_refl _) (Nat.le_refl _)).mono ?_
          rintro e w19 ⟨rfl, hb⟩
          clear ebX40 ebX41 ebX42 zbX4 ebM10 ebM11 ebM12 zbM1 ebM20 ebM21 ebM22 zbM2
          replace OX4 := OX4.all hb
          replace OM1 := OM1.all hb
          replace OM2 := OM2.all hb
          replace bX4 := bX4.all hb
          replace bM1 := bM1.all hb
          replace bM2 := bM2.all hb
          replace R := R.all hb HB.size
          replace HB := HB.trans (hb.mono HB.size)
          clear hb
          cases t4
          · clear hMi hMs ht4 hmW hmH hms
            go_wp2
            go_ret
            exact ⟨rfl, HB⟩
          · skip
            have hmg := mirror_good ht4
            have hwh := goodB_yes ht4
            have eW : mW = W4 := by rw [← hmW]; show (W4.toNat : Int) = W4; omega
            have eH : mH = H4 := by rw [← hmH]; show (H4.toNat : Int) = H4; omega
            have es : mirrorL W4.toNat H4.toNat xs4 = ms := by rw [← hms]; rfl
            rw [es] at hmg
            subst eW
            subst eH
            clear hmW hmH hms es hMi hMs
            have hMM : Hid (∀ (w : World) (A : Option Addr) (c : Nat), Rd w w.heap.size A ms.length c ms → Calls Try.prog 48 #[chartV mW mH (.slice A ms.length c)] w (OutChart w mW mH xs4 true)) := Lib.hid fun w A c h => (by have := implMirrorChart_any mW mH A _ c _ ms w h (Nat.le_refl _); rw [hmg.1, if_pos rfl, hmg.2, show orZero true (mW.toNat : Int) = mW from (show (mW.toNat : Int) = mW by omega), show orZero true (mH.toNat : Int) = mH from (show (mH.toNat : Int) = mH by omega)] at this; exact this)
            clear hmg hwh ht4
            have ebX40 := bX4.cell 0
            have ebX41 := bX4.cell 1
            have ebX42 := bX4.cell 2
            have zbX4 := bX4.lt
            have ebM10 := bM1.cell 0
            have ebM11 := bM1.cell 1
            have ebM12 := bM1.cell 2
            have zbM1 := bM1.lt
            have ebM20 := bM2.cell 0
            have ebM21 := bM2.cell 1
            have ebM22 := bM2.cell 2
            have zbM2 := bM2.lt
            go_wp2_with fail
            refine (hMM.out _ _ _ OM1.rd).mono ?_
            rintro e w20 ⟨A11, c11, rfl, own, hb⟩
            clear ebX40 ebX41 ebX42 zbX4 ebM10 ebM11 ebM12 zbM1 ebM20 ebM21 ebM22 zbM2
            replace OX4 := OX4.all hb
            replace OM1 := OM1.all hb
            replace OM2 := OM2.all hb
            replace bX4 := bX4.all hb
            replace bM1 := bM1.all hb
            replace bM2 := bM2.all hb
            replace R := R.all hb HB.size
            have OB := own.mono HB.size
            clear own
            replace HB := HB.trans (hb.mono HB.size)
            clear hb
            replace OX4 := OX4.alloc (.cells #[.int .i64 mW, .int .i64 mH, .slice A11 xs4.length c11] 26)
            replace OM1 := OM1.alloc (.cells #[.int .i64 mW, .int .i64 mH, .slice A11 xs4.length c11] 26)
            replace OM2 := OM2.alloc (.cells #[.int .i64 mW, .int .i64 mH, .slice A11 xs4.length c11] 26)
            replace OB := OB.alloc (.cells #[.int .i64 mW, .int .i64 mH, .slice A11 xs4.length c11] 26)
            replace bX4 := bX4.alloc (.cells #[.int .i64 mW, .int .i64 mH, .slice A11 xs4.length c11] 26)
            replace bM1 := bM1.alloc (.cells #[.int .i64 mW, .int .i64 mH, .slice A11 xs4.length c11] 26)
            replace bM2 := bM2.alloc (.cells #[.int .i64 mW, .int .i64 mH, .slice A11 xs4.length c11] 26)
            replace R := R.alloc HB.size (.cells #[.int .i64 mW, .int .i64 mH, .slice A11 xs4.length c11] 26)
            have bB := Blk.new w20 #[.int .i64 mW, .int .i64 mH, .slice A11 xs4.length c11] 26
            replace HB := HB.alloc HB.size (.cells #[.int .i64 mW, .int .i64 mH, .slice A11 xs4.length c11] 26)
            have ebX40 := bX4.cell 0
            have ebX41 := bX4.cell 1
            have ebX42 := bX4.cell 2
            have zbX4 := bX4.lt
            have ebM10 := bM1.cell 0
            have ebM11 := bM1.cell 1
            have ebM12 := bM1.cell 2
            have zbM1 := bM1.lt
            have ebM20 := bM2.cell 0
            have ebM21 := bM2.cell 1
            have ebM22 := bM2.cell 2
            have zbM2 := bM2.lt
            have ebB0 := bB.cell 0
            have ebB1 := bB.cell 1
            have ebB2 := bB.cell 2
            have zbB := bB.lt
            go_wp2_with fail
            refine (vChart_same mW mH _ _ _ _ _ _ _ _ xs4 _ OB.rd OX4.rd (Nat.le_refl _) (Nat.le_refl _)).mono ?_
            rintro e w21 ⟨rfl, hb⟩
            clear ebX40 ebX41 ebX42 zbX4 ebM10 ebM11 ebM12 zbM1 ebM20 ebM21 ebM22 zbM2 ebB0 ebB1 ebB2 zbB
            replace OX4 := OX4.all hb
            replace OM1 := OM1.all hb
            replace OM2 := OM2.all hb
            replace OB := OB.all hb
            replace bX4 := bX4.all hb
            replace bM1 := bM1.all hb
            replace bM2 := bM2.all hb
            replace bB := bB.all hb
            replace R := R.all hb HB.size
            replace HB := HB.trans (hb.mono HB.size)
            clear hb
            go_wp2
            go_ret
            exact ⟨rfl, HB⟩
  · go_enter Try.func5, Try.ntmps5
    go_wp2_with fail
    refine (vBig_eq A n c _ (by omega) true (by simp; omega)).mono ?_
    rintro e w' ⟨rfl, rfl⟩
    go_wp2
    go_ret
    exact ⟨rfl, HB⟩
end Go.Proofs.Ytihgobceahfpiaa
