/- The walk of the model's PeriodDown. No condition. -/
import Derived.Test.YtpmhnklmhfadlaaMgPs
import Derived.Test.YtpmhnklmhfadlaaSpecTurn
namespace Go.Proofs.Ytpmhnklmhfadlaa
open Go.RowKit

set_option maxRecDepth 100000 in
set_option maxHeartbeats 2000000 in
theorem specPeriodDown_any (W H : Int) (A : Option Addr) (n c B : Nat) (xs : List Int) (w : World) (hR : Rd w B A n c xs) (hB : B ≤ w.heap.size) :
    Calls Try.prog 12 #[chartV W H (.slice A n c)] w (Out w (.tuple #[.int .i64 (perDN W H xs), .bool (goodB W H xs)])) := by
  have hb0 := Lib.hid ((Below.refl w.heap.size w).alloc (Nat.le_refl _) (.cells #[.int .i64 W, .int .i64 H, .slice A n c] 26))
  have h' := Lib.hid (hR.alloc hB (.cells #[.int .i64 W, .int .i64 H, .slice A n c] 26))
  have x0 := Blk.new w #[.int .i64 W, .int .i64 H, .slice A n c] 26
  by_cases hg : goodB W H xs = true
  · have hv : perDN W H xs = _ := if_pos hg
    rw [hv, hg]
    clear hv
    obtain ⟨m, k, rfl, rfl, m1, m8, k1, k8, hl, h64, hl1, _⟩ := good_nat hg
    simp only [Int.toNat_natCast]
    obtain rfl := hR.len
    obtain ⟨b, off, rfl, _, _⟩ := hR.cells (by omega)
    clear hR
    go_enter Try.func12, Try.ntmps12
    go_wp2_with fail
    refine (l2Good_any m k _ _ c B xs _ h'.out (by simp; omega)).mono ?_
    rintro e w1 ⟨rfl, hb⟩
    have x1 := x0.all hb
    have R1 := h'.out.all hb (by simp; omega)
    have HB := Lib.hid (hb0.out.trans (hb.mono (by simp)))
    have hz1 : w.heap.size ≤ w1.heap.size := HB.out.size
    have hxl := x1.lt
    rw [hg]
    clear hb x0 h' hb0 hg
    obtain ⟨R, HR0⟩ : ∃ R, Hid (perD m k xs = R) := ⟨_, rfl⟩
    have HR : Hid (firstP (downB m k xs) (k - 1) 1 = R) := HR0
    go_wp2
    go_loopw [4] (fun s4 wr => ∃ q : Nat, 1 ≤ q ∧ q ≤ k ∧ s4 = .int .i64 q ∧ Hid (firstP (downB m k xs) (k - q) q = R) ∧ Blk wr w.heap.size 26 #[.int .i64 m, .int .i64 k, .slice (some ⟨b, off, none⟩) xs.length c] ∧ Rd wr B (some ⟨b, off, none⟩) xs.length c xs ∧ Hid (Below w.heap.size w wr)) (fun s4 _ => k + 1 - (intOf s4).toNat)
    case atStart => exact ⟨1, Nat.le_refl _, k1, rfl, HR, x1, R1, HB⟩
    case round =>
      clear HR x1 R1 HB
      obtain ⟨q, hq1, hqm, rfl, HR, x1, R1, HB⟩ := hrel
      have hwz := HB.out.size
      have ex0 := x1.cell 0
      have ex1 := x1.cell 1
      have ex2 := x1.cell 2
      have hyes := Lib.hid (fun hh : downB m k xs q = true => (firstP_yes (g := downB m k xs) (n := k - q) hh).symm.trans HR.out)
      have hno := Lib.hid (fun hh : downB m k xs q = false => (show q < k ∧ firstP (downB m k xs) (k - (q + 1)) (q + 1) = R by
        have hlt : q < k := by
          rcases Nat.lt_or_ge q (k) with h | h
          · exact h
          · obtain rfl : q = k := by omega
            rw [down_all] at hh; cases hh
        refine ⟨hlt, ?_⟩
        have e : k - q = (k - (q + 1)) + 1 := by omega
        rw [← HR.out, e, firstP_no (g := downB m k xs) hh]))
      cases hq : downB m k xs q with
      | true =>
        have HE := Lib.hid (hyes.out hq)
        clear hyes hno
        go_wp2_with fail
        refine (l4Turn_any m k b off c B xs wr R1 (Nat.le_trans hB hwz) m8 k8 hl (Nat.mul_le_mul m8 k8)).mono ?_
        rintro e wt ⟨At, ct, rfl, ot, hbt⟩
        have HBt := Lib.hid (HB.out.trans (hbt.mono hwz))
        have x1' := x1.all hbt
        have R1' := R1.all hbt (Nat.le_trans hB hwz)
        obtain ⟨gt, rfl, _, _⟩ := ot.some_ (by rw [turnL_len]; have := Nat.mul_le_mul m1 k1; omega)
        have hlT : Hid ((turnL m k xs).length = k * m) := Lib.hid (by rw [turnL_len, Nat.mul_comm])
        have rt := ot.rd
        clear hbt ot x1 R1 ex0 ex1 ex2 HB
        have HB := HBt
        have x1 := x1'
        have R1 := R1'
        have hwz := HB.out.size
        clear x1' R1' HBt
        go_wp2_with fail
        refine (l6Across_eq k m gt 0 ct wt.heap.size q (turnL m k xs) wt rt (Nat.le_refl _) k8 m8 hlT hqm true (across_turn.trans hq)).mono ?_
        rintro e w2 ⟨rfl, hb2⟩
        have HB2 := Lib.hid (HB.out.trans (hb2.mono hwz))
        clear hb2 HB x1 R1 hq rt hlT
        go_wp2
        go_ret2
        exact ⟨ret_ib6 (by rw [HR0.out, ← HE.out]) rfl, HB2.out⟩
      | false =>
        obtain ⟨hlt, he⟩ := hno.out hq
        have HE := Lib.hid he
        clear hyes hno he
        go_wp2_with fail
        refine (l4Turn_any m k b off c B xs wr R1 (Nat.le_trans hB hwz) m8 k8 hl (Nat.mul_le_mul m8 k8)).mono ?_
        rintro e wt ⟨At, ct, rfl, ot, hbt⟩
        have HBt := Lib.hid (HB.out.trans (hbt.mono hwz))
        have x1' := x1.all hbt
        have R1' := R1.all hbt (Nat.le_trans hB hwz)
        obtain ⟨gt, rfl, _, _⟩ := ot.some_ (by rw [turnL_len]; have := Nat.mul_le_mul m1 k1; omega)
        have hlT : Hid ((turnL m k xs).length = k * m) := Lib.hid (by rw [turnL_len, Nat.mul_comm])
        have rt := ot.rd
        clear hbt ot x1 R1 ex0 ex1 ex2 HB
        have HB := HBt
        have x1 := x1'
        have R1 := R1'
        have hwz := HB.out.size
        clear x1' R1' HBt
        go_wp2_with fail
        refine (l6Across_eq k m gt 0 ct wt.heap.size q (turnL m k xs) wt rt (Nat.le_refl _) k8 m8 hlT hqm false (across_turn.trans hq)).mono ?_
        rintro e w2 ⟨rfl, hb2⟩
        have x2 := x1.all hb2
        have R2 := R1.all hb2 (Nat.le_trans hB hwz)
        have HB2 := Lib.hid (HB.out.trans (hb2.mono hwz))
        clear hb2 HB x1 R1 hq rt hlT
        go_wp2
        go_roundw
        case rel => exact ⟨q + 1, by omega, by omega, by go_num, HE, x2, R2, HB2⟩
        case measure => simp [intOf]; omega
  · have hn0 := not_false hg
    have hv : perDN W H xs = 0 := if_neg hg
    have HV := Lib.hid hv
    have HG := Lib.hid hn0
    clear hv
    go_enter Try.func12, Try.ntmps12
    go_wp2_with fail
    refine (l2Good_any W H A n c B xs _ h'.out (by simp; omega)).mono ?_
    rintro e w1 ⟨rfl, hb⟩
    have HB := Lib.hid (hb0.out.trans (hb.mono (by simp)))
    rw [hn0]
    clear hb x0 hg hn0
    go_wp2
    go_ret2
    exact ⟨ret_ib6 HV.out.symm HG.out.symm, HB.out⟩
end Go.Proofs.Ytpmhnklmhfadlaa
