/- The walk of the program's PeriodAcross. No condition. -/
import Derived.Test.YtehhidpmbbabeaaPerS
namespace Go.Proofs.Ytehhidpmbbabeaa
open Go.RowKit

set_option maxRecDepth 100000 in
set_option maxHeartbeats 1000000 in
theorem fitsA_eq (m k b off cc B q q0 : Nat) (xs : List Int) (w : World) (hx : Blk w q0 26 #[.int .i64 m, .int .i64 k, .slice (some ⟨b, off, none⟩) xs.length cc]) (hR : Rd w B (some ⟨b, off, none⟩) xs.length cc xs) (hB : B ≤ w.heap.size) (m1 : 1 ≤ m) (m8 : m ≤ 8) (k8 : k ≤ 8) (hl : Hid (xs.length = m * k)) (hq : q ≤ m) :
    Calls Try.prog 59 #[.int .i64 q, .pointer (some ⟨q0, 0, none⟩)] w (Out w (.bool (acrossB m k xs q))) := by
  have e0 := hx.cell 0
  have e1 := hx.cell 1
  have e2 := hx.cell 2
  have hb0 := Lib.hid (Below.refl w.heap.size w)
  clear hx
  go_enter Try.func59, Try.ntmps59
  go_wp2_with fail
  refine (hasPeriodAcross_eq m k b off cc B q xs w hR hB m1 m8 k8 hl hq _ rfl).mono ?_
  rintro e w2 ⟨rfl, hb2⟩
  clear e0 e1 e2
  go_wp2
  go_ret
  exact ⟨rfl, hb2⟩
set_option maxRecDepth 100000 in
set_option maxHeartbeats 2000000 in
theorem smallestA_any (most q0 : Nat) (w : World) (g : Nat → Bool) (h1 : 1 ≤ most) (h8 : most ≤ 8)
    (hp : Hid (∀ (W : World) (q : Nat), 1 ≤ q → q < most → Below w.heap.size w W → Calls Try.prog 59 #[.int .i64 q, .pointer (some ⟨q0, 0, none⟩)] W (Out W (.bool (g q))))) :
    Calls Try.prog 58 #[.int .i64 most, .func (.func 59) #[] #[.pointer (some ⟨q0, 0, none⟩)]] w (Out w (.int .i64 (firstP g (most - 1) 1))) := by
  have hb0 := Lib.hid (Below.refl w.heap.size w)
  obtain ⟨R, HR⟩ : ∃ R, Hid (firstP g (most - 1) 1 = R) := ⟨_, rfl⟩
  rw [HR.out]
  go_enter Try.func58, Try.ntmps58
  go_wp2
  go_loopw [5] (fun s5 wr => ∃ n : Nat, 1 ≤ n ∧ n ≤ most ∧ s5 = .int .i64 n ∧ Hid (firstP g (most - n) n = R) ∧ Hid (Below w.heap.size w wr)) (fun s5 _ => most - (intOf s5).toNat)
  case atStart => exact ⟨1, Nat.le_refl _, h1, rfl, HR, hb0⟩
  case round =>
    clear HR hb0
    obtain ⟨n, hn1, hnm, rfl, HR, HB⟩ := hrel
    have hwz := HB.out.size
    by_cases hlt : n < most
    · have hlt' : (n : Int) < (most : Int) := by omega
      have hcall := Lib.hid (hp.out wr n hn1 hlt HB.out)
      have hyes := Lib.hid (fun hh : g n = true => (firstP_yes (n := most - n) hh).symm.trans HR.out)
      have hno := Lib.hid (fun hh : g n = false => (show firstP g (most - (n + 1)) (n + 1) = R by
        have e : most - n = (most - (n + 1)) + 1 := by omega
        rw [← HR.out, e, firstP_no hh]))
      cases hq : g n with
      | true =>
        rw [hq] at hcall
        have HE := Lib.hid (hyes.out hq)
        clear hyes hno hq
        go_wp2_with (go_at_call 59; refine hcall.out.mono ?_; rintro e w2 ⟨rfl, hb2⟩)
        go_ret
        exact ⟨ret_int (by rw [← HE.out]), HB.out.trans (hb2.mono hwz)⟩
      | false =>
        rw [hq] at hcall
        have HE := Lib.hid (hno.out hq)
        clear hyes hno hq
        go_wp2_with (go_at_call 59; refine hcall.out.mono ?_; rintro e w2 ⟨rfl, hb2⟩)
        have HB2 := Lib.hid (HB.out.trans (hb2.mono hwz))
        go_roundw
        case rel => exact ⟨n + 1, by omega, by omega, by go_num, HE, HB2⟩
        case measure => simp [intOf]; omega
    · obtain rfl : n = most := by omega
      have HE := Lib.hid (show n = R by rw [← HR.out, Nat.sub_self]; rfl)
      go_wp2
      go_ret
      exact ⟨ret_int (by rw [← HE.out]), HB.out⟩
set_option maxRecDepth 100000 in
set_option maxHeartbeats 2000000 in
theorem implPeriodAcross_any (W H : Int) (A : Option Addr) (n c B : Nat) (xs : List Int) (w : World) (hR : Rd w B A n c xs) (hB : B ≤ w.heap.size) :
    Calls Try.prog 24 #[chartV W H (.slice A n c)] w (Out w (.tuple #[.int .i64 (perAN W H xs), .bool (goodB W H xs)])) := by
  have hb0 := Lib.hid ((Below.refl w.heap.size w).alloc (Nat.le_refl _) (.cells #[.int .i64 W, .int .i64 H, .slice A n c] 26))
  have h' := Lib.hid (hR.alloc hB (.cells #[.int .i64 W, .int .i64 H, .slice A n c] 26))
  have x0 := Blk.new w #[.int .i64 W, .int .i64 H, .slice A n c] 26
  by_cases hg : goodB W H xs = true
  · have hv : perAN W H xs = _ := if_pos hg
    rw [hv, hg]
    clear hv
    obtain ⟨m, k, rfl, rfl, m1, m8, k1, k8, hl, h64, hl1, _⟩ := good_nat hg
    simp only [Int.toNat_natCast]
    obtain rfl := hR.len
    obtain ⟨b, off, rfl, _, _⟩ := hR.cells (by omega)
    clear hR
    go_enter Try.func24, Try.ntmps24
    go_wp2_with fail
    refine (implIsChart_any m k _ _ c B xs _ h'.out (by simp; omega)).mono ?_
    rintro e w1 ⟨rfl, hb⟩
    have x1 := x0.all hb
    have R1 := h'.out.all hb (by simp; omega)
    have HB := Lib.hid (hb0.out.trans (hb.mono (by simp)))
    have hz1 : w.heap.size ≤ w1.heap.size := HB.out.size
    have hxl := x1.lt
    rw [hg]
    clear hb x0 h' hb0 hg
    have e0 := x1.cell 0
    have hp := Lib.hid (show ∀ (W : World) (q : Nat), 1 ≤ q → q < m → Below w1.heap.size w1 W → Calls Try.prog 59 #[.int .i64 q, .pointer (some ⟨w.heap.size, 0, none⟩)] W (Out W (.bool (acrossB m k xs q))) from fun W q _ hqm hbW =>
      fitsA_eq m k b off c B q w.heap.size xs W (x1.all hbW) (R1.all hbW (Nat.le_trans hB hz1)) (Nat.le_trans (Nat.le_trans hB hz1) hbW.size) m1 m8 k8 hl (by omega))
    have hRR := Lib.hid (show firstP (acrossB m k xs) (m - 1) 1 = perA m k xs from rfl)
    go_wp2_with fail
    refine (smallestA_any m w.heap.size w1 (acrossB m k xs) m1 m8 hp).mono ?_
    rintro e w2 ⟨rfl, hb2⟩
    have HB2 := Lib.hid (HB.out.trans (hb2.mono hz1))
    clear e0 hp hRR x1 R1 HB hb2
    go_wp2
    go_ret2
    exact ⟨rfl, HB2.out⟩
  · have hn0 := not_false hg
    have hv : perAN W H xs = 0 := if_neg hg
    have HV := Lib.hid hv
    have HG := Lib.hid hn0
    clear hv
    go_enter Try.func24, Try.ntmps24
    go_wp2_with fail
    refine (implIsChart_any W H A n c B xs _ h'.out (by simp; omega)).mono ?_
    rintro e w1 ⟨rfl, hb⟩
    have HB := Lib.hid (hb0.out.trans (hb.mono (by simp)))
    rw [hn0]
    clear hb x0 hg hn0
    go_wp2
    go_ret2
    exact ⟨ret_ib6 HV.out.symm HG.out.symm, HB.out⟩
end Go.Proofs.Ytehhidpmbbabeaa
