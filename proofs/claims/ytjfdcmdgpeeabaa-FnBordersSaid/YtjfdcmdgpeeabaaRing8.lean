/- The walks of RingPeriod, the program's and the model's. No condition. -/
import Derived.Test.YtjfdcmdgpeeabaaRing5
import Derived.Test.YtjfdcmdgpeeabaaPerA
namespace Go.Proofs.Ytjfdcmdgpeeabaa
open Go.RowKit

theorem ret_ib8 {a a' : Int} {b b' : Bool} (h : a = a') (h' : b = b') : Ending.returned (.tuple #[.int .i64 a, .bool b]) = .returned (.tuple #[.int .i64 a', .bool b']) := by rw [h, h']
def perRV (W H : Int) (xs : List Int) : Int := if hasRingB W H xs = true then (perR (ringL W.toNat H.toNat xs) : Int) else 0
set_option maxRecDepth 100000 in
set_option maxHeartbeats 2000000 in
theorem fitsR_eq (g N c B p q0 : Nat) (ys : List Int) (w : World) (hx : Blk w q0 24 #[.slice (some ⟨g, 0, none⟩) N c]) (hR : Rd w B (some ⟨g, 0, none⟩) N c ys) (hB : B ≤ w.heap.size) (p1 : 1 ≤ p) (hp : p ≤ N) :
    Calls Try.prog 42 #[.int .i64 p, .pointer (some ⟨q0, 0, none⟩)] w (Out w (.bool (perRB ys p))) := by
  have hl := hR.len
  have e0 := hx.cell 0
  have hb0 := Lib.hid (Below.refl w.heap.size w)
  have hp0 : ¬ p = 0 := by omega
  obtain ⟨M, hM⟩ : ∃ M, N % p = M := ⟨_, rfl⟩
  have hrem : Int.tmod (N : Int) (p : Int) = (M : Int) := by rw [← hM]; rfl
  have HV := Lib.hid (show perRB ys p = (decide (M = 0) && decide (ys.drop p = ys.take (N - p))) by unfold perRB; rw [hl, hM])
  clear hx hM hl
  by_cases hM0 : M = 0
  · subst hM0
    obtain ⟨d, hd⟩ : ∃ d, decide (ys.drop p = ys.take (N - p)) = d := ⟨_, rfl⟩
    have HD := Lib.hid hd
    rw [hd] at HV
    clear hd
    have hrem0 : Int.tmod (N : Int) (p : Int) = 0 := hrem
    clear hrem
    go_enter Try.func42, Try.ntmps42
    go_wp2_with fail
    refine (hasPeriodI_eq g 0 N c B p ys w hR hB hp d HD.out).mono ?_
    rintro e w1 ⟨rfl, hb⟩
    clear e0
    go_wp2
    go_ret
    exact ⟨ret_bool (by rw [HV.out]; simp), hb⟩
  · go_enter Try.func42, Try.ntmps42
    go_wp2
    go_ret
    exact ⟨ret_bool (by rw [HV.out, decide_eq_false hM0]; rfl), hb0.out⟩
set_option maxRecDepth 100000 in
set_option maxHeartbeats 2000000 in
theorem smallestR_any (most q0 : Nat) (w : World) (g : Nat → Bool) (h1 : 1 ≤ most) (h8 : most ≤ 28)
    (hp : Hid (∀ (W : World) (q : Nat), 1 ≤ q → q < most → Below w.heap.size w W → Calls Try.prog 42 #[.int .i64 q, .pointer (some ⟨q0, 0, none⟩)] W (Out W (.bool (g q))))) :
    Calls Try.prog 45 #[.int .i64 most, .func (.func 42) #[] #[.pointer (some ⟨q0, 0, none⟩)]] w (Out w (.int .i64 (firstP g (most - 1) 1))) := by
  have hb0 := Lib.hid (Below.refl w.heap.size w)
  obtain ⟨R, HR⟩ : ∃ R, Hid (firstP g (most - 1) 1 = R) := ⟨_, rfl⟩
  rw [HR.out]
  go_enter Try.func45, Try.ntmps45
  go_wp2
  go_loopw [5] (fun s5 wr => ∃ n : Nat, 1 ≤ n ∧ n ≤ most ∧ s5 = .int .i64 n ∧ Hid (firstP g (most - n) n = R) ∧ Hid (Below w.heap.size w wr)) (fun s5 _ => most - (intOf s5).toNat)
  case atStart => exact ⟨1, Nat.le_refl _, h1, rfl, HR, hb0⟩
  case round =>
    clear HR hb0
    obtain ⟨n, hn1, hnm, rfl, HR, HB⟩ := hrel
    have hwz := HB.out.size
    by_cases hlt : n < most
    · have hlt' : (n : Int) < (most : Int) := by omega
      have hcall := Lib.hid (hp.out wr n hn1 hlt HB.out)
      have hyes := Lib.hid (fun hh : g n = true => (firstP_yes (n := most - n) hh).symm.trans HR.out)
      have hno := Lib.hid (fun hh : g n = false => (show firstP g (most - (n + 1)) (n + 1) = R by
        have e : most - n = (most - (n + 1)) + 1 := by omega
        rw [← HR.out, e, firstP_no hh]))
      cases hq : g n with
      | true =>
        rw [hq] at hcall
        have HE := Lib.hid (hyes.out hq)
        clear hyes hno hq
        go_wp2_with (go_at_call 42; refine hcall.out.mono ?_; rintro e w2 ⟨rfl, hb2⟩)
        go_ret
        exact ⟨ret_int (by rw [← HE.out]), HB.out.trans (hb2.mono hwz)⟩
      | false =>
        rw [hq] at hcall
        have HE := Lib.hid (hno.out hq)
        clear hyes hno hq
        go_wp2_with (go_at_call 42; refine hcall.out.mono ?_; rintro e w2 ⟨rfl, hb2⟩)
        have HB2 := Lib.hid (HB.out.trans (hb2.mono hwz))
        go_roundw
        case rel => exact ⟨n + 1, by omega, by omega, by go_num, HE, HB2⟩
        case measure => simp [intOf]; omega
    · obtain rfl : n = most := by omega
      have HE := Lib.hid (show n = R by rw [← HR.out, Nat.sub_self]; rfl)
      go_wp2
      go_ret
      exact ⟨ret_int (by rw [← HE.out]), HB.out⟩
set_option maxRecDepth 100000 in
set_option maxHeartbeats 4000000 in
theorem implRingPeriod_any (W H : Int) (A : Option Addr) (n c B : Nat) (xs : List Int) (w : World) (hR : Rd w B A n c xs) (hB : B ≤ w.heap.size) :
    Calls Try.prog 11 #[chartV W H (.slice A n c)] w (Out w (.tuple #[.int .i64 (perRV W H xs), .bool (hasRingB W H xs)])) := by
  cases hg : hasRingB W H xs with
  | true =>
    rw [perRV, if_pos hg]
    obtain ⟨m, k, rfl, rfl, m2, m8, k2, k8, hl, _, h64, hl1⟩ := hasRing_nat hg
    simp only [Int.toNat_natCast]
    have hN28 := ringN_bd m2 m8 k2 k8
    obtain rfl := hR.len
    obtain ⟨b, off, rfl, _, _⟩ := hR.cells (by omega)
    obtain ⟨ys, hys⟩ : ∃ ys, ringL m k xs = ys := ⟨_, rfl⟩
    have hyl : ys.length = ringN m k := by rw [← hys, ringL_len]
    obtain ⟨N, hN⟩ : ∃ N, ringN m k = N := ⟨_, rfl⟩
    rw [hN] at hyl hN28
    have HYL := Lib.hid hyl
    obtain ⟨PR, hPR⟩ : ∃ p, perR ys = p := ⟨_, rfl⟩
    have HR := Lib.hid (show firstP (perRB ys) (N - 1) 1 = PR by rw [← hPR, perR, hyl])
    rw [hys, hPR]
    clear hyl hN
    have HC := Lib.hid (implRingOf_yes m k b off c B xs)
    rw [hys] at HC
    clear hys hPR
    have HB := Lib.hid ((Below.refl w.heap.size w).alloc (by first | (simp; done) | (simp; omega) | omega) (.cells #[.int .i64 m, .int .i64 k, .slice (some ⟨b, off, none⟩) xs.length c] 26))
    have R := ((hR)).alloc (hB) (.cells #[.int .i64 m, .int .i64 k, .slice (some ⟨b, off, none⟩) xs.length c] 26)
    have x := (Blk.new w #[.int .i64 m, .int .i64 k, .slice (some ⟨b, off, none⟩) xs.length c] 26).at_ (q := w.heap.size) (by simp)
    have hsz : w.heap.size + 1 ≤ (w.alloc (.cells #[.int .i64 m, .int .i64 k, .slice (some ⟨b, off, none⟩) xs.length c] 26)).heap.size := by simp
    clear hR
    go_enter Try.func11, Try.ntmps11
    go_wp2_with fail
    obtain ⟨W0, hW0⟩ : ∃ v, (w.alloc (.cells #[.int .i64 m, .int .i64 k, .slice (some ⟨b, off, none⟩) xs.length c] 26)) = v := ⟨_, rfl⟩
    rw [hW0] at HB hsz R x ⊢
    clear hW0
    have ex0 := x.cell 0
    have ex1 := x.cell 1
    have ex2 := x.cell 2
    have zx := x.lt
    go_wp2_with fail
    refine (HC.out _ R (Nat.le_trans hB (by omega)) m2 m8 k2 k8 hl hg).mono ?_
    rintro e w1 ⟨A1, c1, rfl, own, hb⟩
    clear ex0 ex1 ex2 zx
    rw [HYL.out] at own ⊢
    replace x := x.all hb
    replace R := R.all hb (Nat.le_trans (hB) (by omega))
    have O := own.mono (show w.heap.size ≤ _ by omega)
    clear own
    replace HB := Lib.hid (HB.out.trans (hb.mono (by omega)))
    replace hsz := Nat.le_trans hsz hb.size
    clear hb
    obtain ⟨g, rfl, hg1, hg2⟩ := O.some_ (by rw [HYL.out]; omega)
    replace O := O.alloc (.cells #[.slice (some ⟨g, 0, none⟩) N c1] 24)
    have hlqx := x.lt
    replace x := x.alloc (.cells #[.slice (some ⟨g, 0, none⟩) N c1] 24)
    replace R := R.alloc (Nat.le_trans (hB) (by omega)) (.cells #[.slice (some ⟨g, 0, none⟩) N c1] 24)
    have z := Blk.new w1 #[.slice (some ⟨g, 0, none⟩) N c1] 24
    replace HB := Lib.hid (HB.out.alloc (by omega) (.cells #[.slice (some ⟨g, 0, none⟩) N c1] 24))
    have hqq : w.heap.size + 1 ≤ w1.heap.size := hsz
    replace hsz : w.heap.size + 1 ≤ (w1.alloc (.cells #[.slice (some ⟨g, 0, none⟩) N c1] 24)).heap.size := by simp; omega
    have ex0 := x.cell 0
    have ex1 := x.cell 1
    have ex2 := x.cell 2
    have zx := x.lt
    go_wp2_with fail
    clear ex0 ex1 ex2 zx
    obtain ⟨w2, hw_⟩ : ∃ v, w1.alloc (.cells #[.slice (some ⟨g, 0, none⟩) N c1] 24) = v := ⟨_, rfl⟩
    rw [hw_] at HB hsz O x R z ⊢
    obtain ⟨q, hq_⟩ : ∃ q, w1.heap.size = q := ⟨_, rfl⟩
    rw [hq_] at z hqq hlqx ⊢
    clear hw_ hq_
    have hp := Lib.hid (show ∀ (W : World) (p : Nat), 1 ≤ p → p < N → Below w2.heap.size w2 W → Calls Try.prog 42 #[.int .i64 p, .pointer (some ⟨q, 0, none⟩)] W (Out W (.bool (perRB ys p))) from fun W p p1 hpN hbW => fitsR_eq g N c1 _ p q ys W (z.all hbW) (O.all hbW).rd (Nat.le_refl _) p1 (by omega))
    have ex0 := x.cell 0
    have ex1 := x.cell 1
    have ex2 := x.cell 2
    have zx := x.lt
    have ez0 := z.cell 0
    have zz := z.lt
    go_wp2_with fail
    refine (smallestR_any N q w2 (perRB ys) (by omega) (by omega) hp).mono ?_
    rintro e w3 ⟨rfl, hb⟩
    clear ex0 ex1 ex2 zx ez0 zz
    replace O := O.all hb
    replace x := x.all hb
    replace z := z.all hb
    replace R := R.all hb (Nat.le_trans (hB) (by omega))
    replace HB := Lib.hid (HB.out.trans (hb.mono (by omega)))
    replace hsz := Nat.le_trans hsz hb.size
    clear hb
    go_wp2
    go_ret2
    exact ⟨ret_ib8 (by rw [HR.out]) rfl, HB.out⟩
  | false =>
    rw [perRV, if_neg (by rw [hg]; decide)]
    have HC := Lib.hid (implRingOf_any W H A n c B xs)
    rw [hg, ringX, hg] at HC
    have HB := Lib.hid ((Below.refl w.heap.size w).alloc (by first | (simp; done) | (simp; omega) | omega) (.cells #[.int .i64 W, .int .i64 H, .slice A n c] 26))
    have R := ((hR)).alloc (hB) (.cells #[.int .i64 W, .int .i64 H, .slice A n c] 26)
    have x := (Blk.new w #[.int .i64 W, .int .i64 H, .slice A n c] 26).at_ (q := w.heap.size) (by simp)
    have hsz : w.heap.size + 1 ≤ (w.alloc (.cells #[.int .i64 W, .int .i64 H, .slice A n c] 26)).heap.size := by simp
    clear hR
    go_enter Try.func11, Try.ntmps11
    go_wp2_with fail
    obtain ⟨W0, hW0⟩ : ∃ v, (w.alloc (.cells #[.int .i64 W, .int .i64 H, .slice A n c] 26)) = v := ⟨_, rfl⟩
    rw [hW0] at HB hsz R x ⊢
    clear hW0
    have ex0 := x.cell 0
    have ex1 := x.cell 1
    have ex2 := x.cell 2
    have zx := x.lt
    go_wp2_with fail
    refine (HC.out _ R (Nat.le_trans hB (by omega))).mono ?_
    rintro e w1 ⟨A1, c1, rfl, own, hb⟩
    clear ex0 ex1 ex2 zx
    replace x := x.all hb
    replace R := R.all hb (Nat.le_trans (hB) (by omega))
    have O := own.mono (show w.heap.size ≤ _ by omega)
    clear own
    replace HB := Lib.hid (HB.out.trans (hb.mono (by omega)))
    replace hsz := Nat.le_trans hsz hb.size
    clear hb
    have O2 : Own w1 w.heap.size (.slice A1 0 c1) [] := O
    clear O
    replace O2 := O2.alloc (.cells #[.slice A1 0 c1] 24)
    have hlqx := x.lt
    replace x := x.alloc (.cells #[.slice A1 0 c1] 24)
    replace R := R.alloc (Nat.le_trans (hB) (by omega)) (.cells #[.slice A1 0 c1] 24)
    have z := Blk.new w1 #[.slice A1 0 c1] 24
    replace HB := Lib.hid (HB.out.alloc (by omega) (.cells #[.slice A1 0 c1] 24))
    have hqq : w.heap.size + 1 ≤ w1.heap.size := hsz
    replace hsz : w.heap.size + 1 ≤ (w1.alloc (.cells #[.slice A1 0 c1] 24)).heap.size := by simp; omega
    have ex0 := x.cell 0
    have ex1 := x.cell 1
    have ex2 := x.cell 2
    have zx := x.lt
    go_upto_region 2 with fail
    clear ex0 ex1 ex2 zx
    obtain ⟨w2, hw_⟩ : ∃ v, w1.alloc (.cells #[.slice A1 0 c1] 24) = v := ⟨_, rfl⟩
    rw [hw_] at HB hsz O2 x R z ⊢
    obtain ⟨q, hq_⟩ : ∃ q, w1.heap.size = q := ⟨_, rfl⟩
    rw [hq_] at z hqq hlqx ⊢
    clear hw_ hq_
    go_wp2
    go_ret2
    exact ⟨rfl, HB.out⟩
end Go.Proofs.Ytjfdcmdgpeeabaa
