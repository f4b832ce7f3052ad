/- The walk of the program's SmallestMotif. No condition. -/
import Derived.Test.YtehhidpmbbabeaaMotMath
import Derived.Test.YtehhidpmbbabeaaPerJ
import Derived.Test.YtehhidpmbbabeaaPart2
namespace Go.Proofs.Ytehhidpmbbabeaa
open Go.RowKit

set_option maxRecDepth 100000 in
set_option maxHeartbeats 1000000 in
theorem fitsM1_eq (m k b off cc B q q0 : Nat) (xs : List Int) (w : World) (hx : Blk w q0 26 #[.int .i64 m, .int .i64 k, .slice (some ⟨b, off, none⟩) xs.length cc]) (hR : Rd w B (some ⟨b, off, none⟩) xs.length cc xs) (hB : B ≤ w.heap.size) (m1 : 1 ≤ m) (m8 : m ≤ 8) (k8 : k ≤ 8) (hl : Hid (xs.length = m * k)) (hq1 : 1 ≤ q) (hq : q < m) :
    Calls Try.prog 65 #[.int .i64 q, .pointer (some ⟨q0, 0, none⟩)] w (Out w (.bool (gA m k xs q))) := by
  have e0 := hx.cell 0
  have e1 := hx.cell 1
  have e2 := hx.cell 2
  have hb0 := Lib.hid (Below.refl w.heap.size w)
  have hqz : ¬ (q : Int) = 0 := by omega
  clear hx
  by_cases hz : m % q = 0
  · have hrem : Int.tmod (m : Int) (q : Int) = 0 := by rw [remN, hz]; rfl
    have hw0 : IntKind.i64.wrap 0 = 0 := rfl
    have HG := Lib.hid (show acrossB m k xs q = gA m k xs q by unfold gA; rw [decide_eq_true hz, Bool.true_and])
    clear hz
    go_enter Try.func65, Try.ntmps65
    go_wp2_with fail
    refine (hasPeriodAcross_eq m k b off cc B q xs w hR hB m1 m8 k8 hl (Nat.le_of_lt hq) _ HG.out).mono ?_
    rintro e w2 ⟨rfl, hb2⟩
    clear e0 e1 e2
    go_wp2
    go_ret
    exact ⟨rfl, hb2⟩
  · obtain ⟨r, hr⟩ : ∃ r, m % q = r := ⟨_, rfl⟩
    rw [hr] at hz
    have hrq : r < q := by rw [← hr]; exact Nat.mod_lt _ hq1
    have hrem : Int.tmod (m : Int) (q : Int) = (r : Int) := by rw [remN, hr]
    have hwr : IntKind.i64.wrap (r : Int) = (r : Int) := IntWalk.i64_in _ (by omega)
    have hrz : ¬ (r : Int) = 0 := by omega
    have HG := Lib.hid (show gA m k xs q = false by unfold gA; rw [hr, decide_eq_false hz, Bool.false_and])
    clear hr
    rw [HG.out]
    go_enter Try.func65, Try.ntmps65
    go_wp2_with fail
    go_ret
    exact ⟨rfl, hb0.out⟩
set_option maxRecDepth 100000 in
set_option maxHeartbeats 1000000 in
theorem fitsM2_eq (m k b off cc B q q0 : Nat) (xs : List Int) (w : World) (hx : Blk w q0 26 #[.int .i64 m, .int .i64 k, .slice (some ⟨b, off, none⟩) xs.length cc]) (hR : Rd w B (some ⟨b, off, none⟩) xs.length cc xs) (hB : B ≤ w.heap.size) (m1 : 1 ≤ m) (m8 : m ≤ 8) (k8 : k ≤ 8) (hl : Hid (xs.length = m * k)) (hq1 : 1 ≤ q) (hq : q < k) :
    Calls Try.prog 66 #[.int .i64 q, .pointer (some ⟨q0, 0, none⟩)] w (Out w (.bool (gD m k xs q))) := by
  have e0 := hx.cell 0
  have e1 := hx.cell 1
  have e2 := hx.cell 2
  have hb0 := Lib.hid (Below.refl w.heap.size w)
  have hqz : ¬ (q : Int) = 0 := by omega
  clear hx
  by_cases hz : k % q = 0
  · have hrem : Int.tmod (k : Int) (q : Int) = 0 := by rw [remN, hz]; rfl
    have hw0 : IntKind.i64.wrap 0 = 0 := rfl
    have HG := Lib.hid (show downB m k xs q = gD m k xs q by unfold gD; rw [decide_eq_true hz, Bool.true_and])
    clear hz
    go_enter Try.func66, Try.ntmps66
    go_wp2_with fail
    refine (hasPeriodDown_eq m k b off cc B q xs w hR hB m1 m8 k8 hl hq _ HG.out).mono ?_
    rintro e w2 ⟨rfl, hb2⟩
    clear e0 e1 e2
    go_wp2
    go_ret
    exact ⟨rfl, hb2⟩
  · obtain ⟨r, hr⟩ : ∃ r, k % q = r := ⟨_, rfl⟩
    rw [hr] at hz
    have hrq : r < q := by rw [← hr]; exact Nat.mod_lt _ hq1
    have hrem : Int.tmod (k : Int) (q : Int) = (r : Int) := by rw [remN, hr]
    have hwr : IntKind.i64.wrap (r : Int) = (r : Int) := IntWalk.i64_in _ (by omega)
    have hrz : ¬ (r : Int) = 0 := by omega
    have HG := Lib.hid (show gD m k xs q = false by unfold gD; rw [hr, decide_eq_false hz, Bool.false_and])
    clear hr
    rw [HG.out]
    go_enter Try.func66, Try.ntmps66
    go_wp2_with fail
    go_ret
    exact ⟨rfl, hb0.out⟩
set_option maxRecDepth 100000 in
set_option maxHeartbeats 2000000 in
theorem smallestM1_any (most q0 : Nat) (w : World) (g : Nat → Bool) (h1 : 1 ≤ most) (h8 : most ≤ 8)
    (hp : Hid (∀ (W : World) (q : Nat), 1 ≤ q → q < most → Below w.heap.size w W → Calls Try.prog 65 #[.int .i64 q, .pointer (some ⟨q0, 0, none⟩)] W (Out W (.bool (g q))))) :
    Calls Try.prog 58 #[.int .i64 most, .func (.func 65) #[] #[.pointer (some ⟨q0, 0, none⟩)]] w (Out w (.int .i64 (firstP g (most - 1) 1))) := by
  have hb0 := Lib.hid (Below.refl w.heap.size w)
  obtain ⟨R, HR⟩ : ∃ R, Hid (firstP g (most - 1) 1 = R) := ⟨_, rfl⟩
  rw [HR.out]
  go_enter Try.func58, Try.ntmps58
  go_wp2
  go_loopw [5] (fun s5 wr => ∃ n : Nat, 1 ≤ n ∧ n ≤ most ∧ s5 = .int .i64 n ∧ Hid (firstP g (most - n) n = R) ∧ Hid (Below w.heap.size w wr)) (fun s5 _ => most - (intOf s5).toNat)
  case atStart => exact ⟨1, Nat.le_refl _, h1, rfl, HR, hb0⟩
  case round =>
    clear HR hb0
    obtain ⟨n, hn1, hnm, rfl, HR, HB⟩ := hrel
    have hwz := HB.out.size
    by_cases hlt : n < most
    · have hlt' : (n : Int) < (most : Int) := by omega
      have hcall := Lib.hid (hp.out wr n hn1 hlt HB.out)
      have hyes := Lib.hid (fun hh : g n = true => (firstP_yes (n := most - n) hh).symm.trans HR.out)
      have hno := Lib.hid (fun hh : g n = false => (show firstP g (most - (n + 1)) (n + 1) = R by
        have e : most - n = (most - (n + 1)) + 1 := by omega
        rw [← HR.out, e, firstP_no hh]))
      cases hq : g n with
      | true =>
        rw [hq] at hcall
        have HE := Lib.hid (hyes.out hq)
        clear hyes hno hq
        go_wp2_with (go_at_call 65; refine hcall.out.mono ?_; rintro e w2 ⟨rfl, hb2⟩)
        go_ret
        exact ⟨ret_int (by rw [← HE.out]), HB.out.trans (hb2.mono hwz)⟩
      | false =>
        rw [hq] at hcall
        have HE := Lib.hid (hno.out hq)
        clear hyes hno hq
        go_wp2_with (go_at_call 65; refine hcall.out.mono ?_; rintro e w2 ⟨rfl, hb2⟩)
        have HB2 := Lib.hid (HB.out.trans (hb2.mono hwz))
        go_roundw
        case rel => exact ⟨n + 1, by omega, by omega, by go_num, HE, HB2⟩
        case measure => simp [intOf]; omega
    · obtain rfl : n = most := by omega
      have HE := Lib.hid (show n = R by rw [← HR.out, Nat.sub_self]; rfl)
      go_wp2
      go_ret
      exact ⟨ret_int (by rw [← HE.out]), HB.out⟩
set_option maxRecDepth 100000 in
set_option maxHeartbeats 2000000 in
theorem smallestM2_any (most q0 : Nat) (w : World) (g : Nat → Bool) (h1 : 1 ≤ most) (h8 : most ≤ 8)
    (hp : Hid (∀ (W : World) (q : Nat), 1 ≤ q → q < most → Below w.heap.size w W → Calls Try.prog 66 #[.int .i64 q, .pointer (some ⟨q0, 0, none⟩)] W (Out W (.bool (g q))))) :
    Calls Try.prog 58 #[.int .i64 most, .func (.func 66) #[] #[.pointer (some ⟨q0, 0, none⟩)]] w (Out w (.int .i64 (firstP g (most - 1) 1))) := by
  have hb0 := Lib.hid (Below.refl w.heap.size w)
  obtain ⟨R, HR⟩ : ∃ R, Hid (firstP g (most - 1) 1 = R) := ⟨_, rfl⟩
  rw [HR.out]
  go_enter Try.func58, Try.ntmps58
  go_wp2
  go_loopw [5] (fun s5 wr => ∃ n : Nat, 1 ≤ n ∧ n ≤ most ∧ s5 = .int .i64 n ∧ Hid (firstP g (most - n) n = R) ∧ Hid (Below w.heap.size w wr)) (fun s5 _ => most - (intOf s5).toNat)
  case atStart => exact ⟨1, Nat.le_refl _, h1, rfl, HR, hb0⟩
  case round =>
    clear HR hb0
    obtain ⟨n, hn1, hnm, rfl, HR, HB⟩ := hrel
    have hwz := HB.out.size
    by_cases hlt : n < most
    · have hlt' : (n : Int) < (most : Int) := by omega
      have hcall := Lib.hid (hp.out wr n hn1 hlt HB.out)
      have hyes := Lib.hid (fun hh : g n = true => (firstP_yes (n := most - n) hh).symm.trans HR.out)
      have hno := Lib.hid (fun hh : g n = false => (show firstP g (most - (n + 1)) (n + 1) = R by
        have e : most - n = (most - (n + 1)) + 1 := by omega
        rw [← HR.out, e, firstP_no hh]))
      cases hq : g n with
      | true =>
        rw [hq] at hcall
        have HE := Lib.hid (hyes.out hq)
        clear hyes hno hq
        go_wp2_with (go_at_call 66; refine hcall.out.mono ?_; rintro e w2 ⟨rfl, hb2⟩)
        go_ret
        exact ⟨ret_int (by rw [← HE.out]), HB.out.trans (hb2.mono hwz)⟩
      | false =>
        rw [hq] at hcall
        have HE := Lib.hid (hno.out hq)
        clear hyes hno hq
        go_wp2_with (go_at_call 66; refine hcall.out.mono ?_; rintro e w2 ⟨rfl, hb2⟩)
        have HB2 := Lib.hid (HB.out.trans (hb2.mono hwz))
        go_roundw
        case rel => exact ⟨n + 1, by omega, by omega, by go_num, HE, HB2⟩
        case measure => simp [intOf]; omega
    · obtain rfl : n = most := by omega
      have HE := Lib.hid (show n = R by rw [← HR.out, Nat.sub_self]; rfl)
      go_wp2
      go_ret
      exact ⟨ret_int (by rw [← HE.out]), HB.out⟩
set_option maxRecDepth 100000 in
set_option maxHeartbeats 4000000 in
theorem implSmallestMotif_any (W H : Int) (A : Option Addr) (n c B : Nat) (xs : List Int) (w : World) (hR : Rd w B A n c xs) (hB : B ≤ w.heap.size) :
    Calls Try.prog 28 #[chartV W H (.slice A n c)] w (OutChart w (orZero (goodB W H xs) (divA W.toNat H.toNat xs)) (orZero (goodB W H xs) (divD W.toNat H.toNat xs)) (motX W H xs) (goodB W H xs)) := by
  have hb0 := Lib.hid (((Below.refl w.heap.size w).alloc (Nat.le_refl _) (.cells #[.int .i64 W, .int .i64 H, .slice A n c] 26)).alloc (by simp) (.cells #[.int .i64 0, .int .i64 0, .slice none 0 0] 26))
  have h' := Lib.hid ((hR.alloc hB (.cells #[.int .i64 W, .int .i64 H, .slice A n c] 26)).alloc (by simp; omega) (.cells #[.int .i64 0, .int .i64 0, .slice none 0 0] 26))
  have r0 := (Blk.new (w.alloc (.cells #[.int .i64 W, .int .i64 H, .slice A n c] 26)) #[.int .i64 0, .int .i64 0, .slice none 0 0] 26)
  have x0 := (Blk.new w #[.int .i64 W, .int .i64 H, .slice A n c] 26).alloc (.cells #[.int .i64 0, .int .i64 0, .slice none 0 0] 26)
  by_cases h : (goodB W H xs) = true
  · have hX : motX W H xs = _ := if_pos h
    rw [hX, h, orZero, orZero, if_pos rfl, if_pos rfl]
    clear hX
    have hg : goodB W H xs = true := h
    obtain ⟨m, k, rfl, rfl, m1, m8, k1, k8, hl, h64, hl1, _⟩ := good_nat hg
    have h64' : m * k ≤ 64 := Nat.mul_le_mul m8 k8
    simp only [Int.toNat_natCast]
    obtain rfl := hR.len
    obtain ⟨b, off, rfl, _, _⟩ := hR.cells (by omega)
    clear hR
    obtain ⟨hA1, hAm, _, _⟩ := divA_bd (m := m) (k := k) (xs := xs) m1
    obtain ⟨hD1, hDk⟩ := divD_bd (m := m) (k := k) (xs := xs) k1
    obtain ⟨da, hda⟩ : ∃ da, Hid (divA m k xs = da) := ⟨_, rfl⟩
    obtain ⟨dd, hdd⟩ : ∃ dd, Hid (divD m k xs = dd) := ⟨_, rfl⟩
    rw [hda.out] at hA1 hAm ⊢
    rw [hdd.out] at hD1 hDk ⊢
    go_enter Try.func28, Try.ntmps28
    go_wp2_with fail
    refine (implIsChart_any m k _ _ c B xs _ h'.out (by simp; omega)).mono ?_
    rintro e w1 ⟨rfl, hb⟩
    have r1 := (r0.all hb).at_ (q := w.heap.size + 1) (by simp)
    have x1 := x0.all hb
    have R1 := h'.out.all hb (by simp; omega)
    have HB := Lib.hid (hb0.out.trans (hb.mono (by simp; omega)))
    have hsz := r1.lt
    have hz1 : w.heap.size ≤ w1.heap.size := HB.out.size
    have e0 := x1.cell 0
    have e1 := x1.cell 1
    have e2 := x1.cell 2
    clear hb r0 x0 h' hb0
    rw [hg]
    have hp1 := Lib.hid (show ∀ (V : World) (q : Nat), 1 ≤ q → q < m → Below w1.heap.size w1 V → Calls Try.prog 65 #[.int .i64 q, .pointer (some ⟨w.heap.size, 0, none⟩)] V (Out V (.bool (gA m k xs q))) from fun V q hq1 hqm hbV =>
      fitsM1_eq m k b off c B q w.heap.size xs V (x1.all hbV) (R1.all hbV (Nat.le_trans hB hz1)) (Nat.le_trans (Nat.le_trans hB hz1) hbV.size) m1 m8 k8 hl hq1 hqm)
    go_wp2_with fail
    refine (smallestM1_any m w.heap.size w1 (gA m k xs) m1 m8 hp1).mono ?_
    rw [divA_is, hda.out]
    rintro e w2 ⟨rfl, hb2⟩
    have x2 := x1.all hb2
    have r2 := r1.all hb2
    have R2 := R1.all hb2 (Nat.le_trans hB hz1)
    have HB2 := Lib.hid (HB.out.trans (hb2.mono hz1))
    have hz2 : w.heap.size ≤ w2.heap.size := HB2.out.size
    clear hp1 hb2 HB x1 r1 R1 e0 e1 e2
    have e1 := x2.cell 1
    have hp2 := Lib.hid (show ∀ (V : World) (q : Nat), 1 ≤ q → q < k → Below w2.heap.size w2 V → Calls Try.prog 66 #[.int .i64 q, .pointer (some ⟨w.heap.size, 0, none⟩)] V (Out V (.bool (gD m k xs q))) from fun V q hq1 hqm hbV =>
      fitsM2_eq m k b off c B q w.heap.size xs V (x2.all hbV) (R2.all hbV (Nat.le_trans hB hz2)) (Nat.le_trans (Nat.le_trans hB hz2) hbV.size) m1 m8 k8 hl hq1 hqm)
    go_wp2_with fail
    refine (smallestM2_any k w.heap.size w2 (gD m k xs) k1 k8 hp2).mono ?_
    rw [divD_is, hdd.out]
    rintro e w3 ⟨rfl, hb3⟩
    have x3 := x2.all hb3
    have r3 := r2.all hb3
    have R3 := R2.all hb3 (Nat.le_trans hB hz2)
    have HB3 := Lib.hid (HB2.out.trans (hb3.mono hz2))
    have hz3 : w.heap.size ≤ w3.heap.size := HB3.out.size
    clear hp2 hb3 HB2 x2 r2 R2 e1
    have e0 := x3.cell 0
    have e1 := x3.cell 1
    have e2 := x3.cell 2
    have hwi : withinB (m : Int) (k : Int) ((0 : Nat) : Int) ((0 : Nat) : Int) (dd : Int) (da : Int) = true := by
      unfold withinB; rw [decide_eq_true_eq]; omega
    have HPa := implPartOf_yes m k b off c B 0 0 dd da xs w3 R3 (Nat.le_trans hB hz3) hg hwi m1 m8 k8 hl h64' (by omega) (by omega) hD1 hA1
    go_wp2_with fail
    refine HPa.mono ?_
    rintro e w6 ⟨A6, c6, rfl, own6, hb6⟩
    have r6 := r3.all hb6
    have HB6 := Lib.hid (HB3.out.trans (hb6.mono hz3))
    have g0 := r6.cell 0
    have g1 := r6.cell 1
    have g2 := r6.cell 2
    have z0 := r6.frozen 0
    have z1 := r6.frozen 1
    have z2 := r6.frozen 2
    have hz6 := r6.lt
    clear hb6 e0 e1 e2 HPa
    have F := fin3 (p := w.heap.size + 1) (a := .int .i64 (da : Int)) (b := .int .i64 (dd : Int)) (c := .slice A6 (partL m xs 0 0 dd da).length c6) own6 (row_ne' own6.1 r6 (by decide)) HB6.out (by omega)
    go_wp2
    exact bodyPost_ret (v := .tuple #[chartV (da : Int) (dd : Int) (.slice A6 (partL m xs 0 0 dd da).length c6), .bool true]) (by simp [results, Try.results28, go_sem, g0, g1, g2]) rfl ⟨A6, c6, rfl, F.1.mono hz3, F.2⟩
  · have hX : motX W H xs = _ := if_neg h
    rw [hX, not_false h]
    have hg : goodB W H xs = false := not_false h
    go_enter Try.func28, Try.ntmps28
    go_wp2_with fail
    refine (implIsChart_any W H A n c B xs _ h'.out (by simp; omega)).mono ?_
    rintro e w1 ⟨rfl, hb⟩
    have r1 := (r0.all hb).at_ (q := w.heap.size + 1) (by simp)
    have HB := Lib.hid (hb0.out.trans (hb.mono (by simp; omega)))
    have g0 := r1.cell 0
    have g1 := r1.cell 1
    have g2 := r1.cell 2
    have z0 := r1.frozen 0
    have z1 := r1.frozen 1
    have z2 := r1.frozen 2
    clear hb r0
    rw [hg]
    go_wp2_with fail
    have F := fin3 (p := w.heap.size + 1) (a := .int .i64 0) (b := .int .i64 0) (c := .slice none 0 0) (Own.nil w1 w.heap.size) (by simp [Value.ownBlock]) HB.out (by omega)
    exact bodyPost_ret (v := .tuple #[chartV 0 0 (.slice none 0 0), .bool false]) (by simp [results, Try.results28, go_sem, g0, g1, g2]) rfl ⟨none, 0, rfl, F.1, F.2⟩
end Go.Proofs.Ytehhidpmbbabeaa
