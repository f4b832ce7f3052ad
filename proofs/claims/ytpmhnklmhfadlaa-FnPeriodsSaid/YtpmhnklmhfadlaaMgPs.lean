/- Several texts of this proof in one: PerS, PerI. No condition. -/
import Derived.Test.YtpmhnklmhfadlaaPerA
import Derived.Test.YtpmhnklmhfadlaaRun
namespace Go.Proofs.Ytpmhnklmhfadlaa
open Go.RowKit

theorem ret_ib6 {a a' : Int} {b b' : Bool} (h : a = a') (h' : b = b') : Ending.returned (.tuple #[.int .i64 a, .bool b]) = .returned (.tuple #[.int .i64 a', .bool b']) := by rw [h, h']
def perAN (W H : Int) (xs : List Int) : Int := if goodB W H xs = true then (perA W.toNat H.toNat xs : Int) else 0
def perDN (W H : Int) (xs : List Int) : Int := if goodB W H xs = true then (perD W.toNat H.toNat xs : Int) else 0
set_option maxRecDepth 100000 in
set_option maxHeartbeats 8000000 in
theorem l6Across_eq (m k b off cc B p : Nat) (xs : List Int) (w : World) (hR : Rd w B (some ⟨b, off, none⟩) xs.length cc xs) (hB : B ≤ w.heap.size) (m8 : m ≤ 8) (k8 : k ≤ 8) (hl : Hid (xs.length = m * k)) (hp : p ≤ m) (d : Bool) (hd : acrossB m k xs p = d) :
    Calls Try.prog 36 #[chartV m k (.slice (some ⟨b, off, none⟩) xs.length cc), .int .i64 p] w (Out w (.bool d)) := by
  have hb0 := Lib.hid ((Below.refl w.heap.size w).alloc (Nat.le_refl _) (.cells #[.int .i64 m, .int .i64 k, .slice (some ⟨b, off, none⟩) xs.length cc] 26))
  have R0 := hR.alloc hB (.cells #[.int .i64 m, .int .i64 k, .slice (some ⟨b, off, none⟩) xs.length cc] 26)
  have x0 := Blk.new w #[.int .i64 m, .int .i64 k, .slice (some ⟨b, off, none⟩) xs.length cc] 26
  have HD := Lib.hid hd
  have h64 : m * k ≤ 64 := Nat.mul_le_mul m8 k8
  clear hR hd
  go_enter Try.func36, Try.ntmps36
  go_wp2
  go_loopw [5, 6] (fun s5 _ wr => ∃ i : Nat, i ≤ k ∧ s5 = .int .i64 i ∧ Hid (∀ q j, q < i → j + p < m → elt m xs q j = elt m xs q (j + p)) ∧ Blk wr w.heap.size 26 #[.int .i64 m, .int .i64 k, .slice (some ⟨b, off, none⟩) xs.length cc] ∧ Rd wr B (some ⟨b, off, none⟩) xs.length cc xs ∧ Hid (Below w.heap.size w wr)) (fun s5 _ _ => k - (intOf s5).toNat)
  case atStart => exact ⟨0, Nat.zero_le _, rfl, Lib.hid (fun q j hq => absurd hq (Nat.not_lt_zero _)), x0, R0, hb0⟩
  case round =>
    clear x0 R0 hb0
    obtain ⟨i, hi, rfl, HS, x1, R1, HB⟩ := hrel
    have ex1 := x1.cell 1
    by_cases hik : i < k
    · have hik' : (i : Int) < (k : Int) := by omega
      go_wp2
      clear ex1
      go_loopw [6] (fun s6 wr => ∃ j : Nat, j ≤ m ∧ s6 = .int .i64 j ∧ Hid (∀ t, t < j → t + p < m → elt m xs i t = elt m xs i (t + p)) ∧ Blk wr w.heap.size 26 #[.int .i64 m, .int .i64 k, .slice (some ⟨b, off, none⟩) xs.length cc] ∧ Rd wr B (some ⟨b, off, none⟩) xs.length cc xs ∧ Hid (Below w.heap.size w wr)) (fun s6 _ => m - (intOf s6).toNat)
      case atStart => exact ⟨0, Nat.zero_le _, rfl, Lib.hid (fun t ht => absurd ht (Nat.not_lt_zero _)), x1, R1, HB⟩
      case round =>
        clear x1 R1 HB
        obtain ⟨j, hj, rfl, HJ, x1, R1, HB⟩ := hrel
        have hwj : IntKind.i64.wrap ((j : Int) + (p : Int)) = (j : Int) + (p : Int) := IntWalk.i64_in _ (by omega)
        by_cases hjm : j + p < m
        · have hjm' : (j : Int) + (p : Int) < (m : Int) := by omega
          have HJP := Lib.hid (show (j : Int) + (p : Int) = ((j + p : Nat) : Int) by omega)
          have hwz := HB.out.size
          have hxl := x1.lt
          have ex0 := x1.cell 0
          have ex1 := x1.cell 1
          have ex2 := x1.cell 2
          have hlt1 := at_lt hl.out hik (show j < m by omega)
          have hlt2 := at_lt hl.out hik hjm
          obtain ⟨_, _, x, e1, hb1, hx, _, _, HX⟩ := R1.at hlt1
          cases e1
          obtain ⟨_, _, y, e2, _, hy, _, _, HY⟩ := R1.at hlt2
          cases e2
          have hbz : b < wr.heap.size := Nat.lt_of_lt_of_le hb1 (Nat.le_trans hB hwz)
          have hbzd : b < wr.drew.heap.size := hbz
          have hxd : wr.drew.cell? ⟨b, off + (i * m + j), none⟩ = some (.int .i64 x) := hx
          go_wp2
          go_region_held3 (fun w' => w'.cell? ⟨w.heap.size, 0, none⟩ = some (.int .i64 m) ∧ w'.cell? ⟨w.heap.size, 1, none⟩ = some (.int .i64 k) ∧ w'.cell? ⟨w.heap.size, 2, none⟩ = some (.slice (some ⟨b, off, none⟩) xs.length cc)) (first | exact ⟨ex0, ex1, ex2⟩ | go_keep) (first | (go_at_call 65; (with_reducible refine (l2At_any m k i j b off cc xs x _ hl.out h64 hik (show j < m by omega) hbzd hxd).mono ?_); rintro e w3 ⟨rfl, hb3⟩; (try replace hb3 := below_drew' hb3); have x3 := x1.all hb3; have R3 := R1.all hb3 (Nat.le_trans hB hwz); have HB3 := Lib.hid (HB.out.trans (hb3.mono hwz)); have hwz3 : w.heap.size ≤ w3.heap.size := HB3.out.size; replace ex0 := cells_of hb3 ex0 hxl; replace ex1 := cells_of hb3 ex1 hxl; replace ex2 := cells_of hb3 ex2 hxl; have hxl3 := x3.lt; replace hy := cells_of hb3 hy hbz; have hbz3 : b < w3.heap.size := Nat.lt_of_lt_of_le hbz hb3.size; clear hb3) | (go_at_call 65; (with_reducible refine (l2At_int m k i (j + p) b off cc (i : Int) _ xs y _ rfl HJP.out hl.out h64 hik hjm hbz3 hy).mono ?_); rintro e w4 ⟨rfl, hb4⟩; have x4 := x3.all hb4; have R4 := R3.all hb4 (Nat.le_trans hB hwz3); have HB4 := Lib.hid (HB3.out.trans (hb4.mono hwz3)); replace ex0 := cells_of hb4 ex0 hxl3; replace ex1 := cells_of hb4 ex1 hxl3; replace ex2 := cells_of hb4 ex2 hxl3; clear hb4))
          clear x1 R1 HB x3 R3 HB3 ex0 ex1 ex2 hx hy hxd
          by_cases hxy : x = y
          · have HN := Lib.hid (show ∀ t, t < j + 1 → t + p < m → elt m xs i t = elt m xs i (t + p) from fun t ht htm => by
              by_cases e : t = j
              · subst e
                unfold elt
                have h1 := HX.out
                have h2 := HY.out
                rw [show i * m + (t + p) = i * m + (t + p) from rfl] at h2
                rw [h1, h2, hxy]
              · exact HJ.out t (by omega) htm)
            subst hxy
            go_wp2
            go_roundw
            case rel => exact ⟨j + 1, by omega, by go_num, HN, x4, R4, HB4⟩
            case measure => simp [intOf]; omega
          · have HN := Lib.hid (show d = false by
              rw [← HD.out]
              cases hh : acrossB m k xs p with
              | false => rfl
              | true =>
                have h5 := across_iff.1 hh i j hik hjm
                unfold elt at h5
                have h1 := HX.out
                have h2 := HY.out
                rw [h1, h2] at h5
                exact absurd h5 hxy)
            have hne : (x != y) = true := by simpa using hxy
            go_wp2
            go_ret
            exact ⟨ret_bool HN.out.symm, HB4.out⟩
        · have hjm' : ¬ (j : Int) + (p : Int) < (m : Int) := by omega
          have ex0 := x1.cell 0
          have HN := Lib.hid (show ∀ q j, q < i + 1 → j + p < m → elt m xs q j = elt m xs q (j + p) from fun q t hq ht => by
            by_cases e : q = i
            · subst e; exact HJ.out t (by omega) ht
            · exact HS.out q t (by omega) ht)
          go_wp2
          go_roundw
          case rel => exact ⟨i + 1, by omega, by go_num, HN, x1, R1, HB⟩
          case measure => simp [intOf]; omega
    · have hik' : ¬ (i : Int) < (k : Int) := by omega
      have HN := Lib.hid (show d = true by rw [← HD.out]; exact across_iff.2 fun q j hq hj => HS.out q j (by omega) hj)
      go_wp2
      go_ret
      exact ⟨ret_bool HN.out.symm, HB.out⟩
set_option maxRecDepth 100000 in
set_option maxHeartbeats 2000000 in
theorem specPeriodAcross_any (W H : Int) (A : Option Addr) (n c B : Nat) (xs : List Int) (w : World) (hR : Rd w B A n c xs) (hB : B ≤ w.heap.size) :
    Calls Try.prog 10 #[chartV W H (.slice A n c)] w (Out w (.tuple #[.int .i64 (perAN W H xs), .bool (goodB W H xs)])) := by
  have hb0 := Lib.hid ((Below.refl w.heap.size w).alloc (Nat.le_refl _) (.cells #[.int .i64 W, .int .i64 H, .slice A n c] 26))
  have h' := Lib.hid (hR.alloc hB (.cells #[.int .i64 W, .int .i64 H, .slice A n c] 26))
  have x0 := Blk.new w #[.int .i64 W, .int .i64 H, .slice A n c] 26
  by_cases hg : goodB W H xs = true
  · have hv : perAN W H xs = _ := if_pos hg
    rw [hv, hg]
    clear hv
    obtain ⟨m, k, rfl, rfl, m1, m8, k1, k8, hl, h64, hl1, _⟩ := good_nat hg
    simp only [Int.toNat_natCast]
    obtain rfl := hR.len
    obtain ⟨b, off, rfl, _, _⟩ := hR.cells (by omega)
    clear hR
    go_enter Try.func10, Try.ntmps10
    go_wp2_with fail
    refine (l2Good_any m k _ _ c B xs _ h'.out (by simp; omega)).mono ?_
    rintro e w1 ⟨rfl, hb⟩
    have x1 := x0.all hb
    have R1 := h'.out.all hb (by simp; omega)
    have HB := Lib.hid (hb0.out.trans (hb.mono (by simp)))
    have hz1 : w.heap.size ≤ w1.heap.size := HB.out.size
    have hxl := x1.lt
    rw [hg]
    clear hb x0 h' hb0 hg
    obtain ⟨R, HR0⟩ : ∃ R, Hid (perA m k xs = R) := ⟨_, rfl⟩
    have HR : Hid (firstP (acrossB m k xs) (m - 1) 1 = R) := HR0
    go_wp2
    go_loopw [4] (fun s4 wr => ∃ q : Nat, 1 ≤ q ∧ q ≤ m ∧ s4 = .int .i64 q ∧ Hid (firstP (acrossB m k xs) (m - q) q = R) ∧ Blk wr w.heap.size 26 #[.int .i64 m, .int .i64 k, .slice (some ⟨b, off, none⟩) xs.length c] ∧ Rd wr B (some ⟨b, off, none⟩) xs.length c xs ∧ Hid (Below w.heap.size w wr)) (fun s4 _ => m + 1 - (intOf s4).toNat)
    case atStart => exact ⟨1, Nat.le_refl _, m1, rfl, HR, x1, R1, HB⟩
    case round =>
      clear HR x1 R1 HB
      obtain ⟨q, hq1, hqm, rfl, HR, x1, R1, HB⟩ := hrel
      have hwz := HB.out.size
      have ex0 := x1.cell 0
      have ex1 := x1.cell 1
      have ex2 := x1.cell 2
      have hyes := Lib.hid (fun hh : acrossB m k xs q = true => (firstP_yes (g := acrossB m k xs) (n := m - q) hh).symm.trans HR.out)
      have hno := Lib.hid (fun hh : acrossB m k xs q = false => (show q < m ∧ firstP (acrossB m k xs) (m - (q + 1)) (q + 1) = R by
        have hlt : q < m := by
          rcases Nat.lt_or_ge q (m) with h | h
          · exact h
          · obtain rfl : q = m := by omega
            rw [across_all] at hh; cases hh
        refine ⟨hlt, ?_⟩
        have e : m - q = (m - (q + 1)) + 1 := by omega
        rw [← HR.out, e, firstP_no (g := acrossB m k xs) hh]))
      cases hq : acrossB m k xs q with
      | true =>
        have HE := Lib.hid (hyes.out hq)
        clear hyes hno
        go_wp2_with fail
        refine (l6Across_eq m k b off c B q xs wr R1 (Nat.le_trans hB hwz) m8 k8 hl hqm true hq).mono ?_
        rintro e w2 ⟨rfl, hb2⟩
        have HB2 := Lib.hid (HB.out.trans (hb2.mono hwz))
        clear hb2 HB x1 R1 ex0 ex1 ex2 hq
        go_wp2
        go_ret2
        exact ⟨ret_ib6 (by rw [HR0.out, ← HE.out]) rfl, HB2.out⟩
      | false =>
        obtain ⟨hlt, he⟩ := hno.out hq
        have HE := Lib.hid he
        clear hyes hno he
        go_wp2_with fail
        refine (l6Across_eq m k b off c B q xs wr R1 (Nat.le_trans hB hwz) m8 k8 hl hqm false hq).mono ?_
        rintro e w2 ⟨rfl, hb2⟩
        have x2 := x1.all hb2
        have R2 := R1.all hb2 (Nat.le_trans hB hwz)
        have HB2 := Lib.hid (HB.out.trans (hb2.mono hwz))
        clear hb2 HB x1 R1 ex0 ex1 ex2 hq
        go_wp2
        go_roundw
        case rel => exact ⟨q + 1, by omega, by omega, by go_num, HE, x2, R2, HB2⟩
        case measure => simp [intOf]; omega
  · have hn0 := not_false hg
    have hv : perAN W H xs = 0 := if_neg hg
    have HV := Lib.hid hv
    have HG := Lib.hid hn0
    clear hv
    go_enter Try.func10, Try.ntmps10
    go_wp2_with fail
    refine (l2Good_any W H A n c B xs _ h'.out (by simp; omega)).mono ?_
    rintro e w1 ⟨rfl, hb⟩
    have HB := Lib.hid (hb0.out.trans (hb.mono (by simp)))
    rw [hn0]
    clear hb x0 hg hn0
    go_wp2
    go_ret2
    exact ⟨ret_ib6 HV.out.symm HG.out.symm, HB.out⟩
end Go.Proofs.Ytpmhnklmhfadlaa
namespace Go.Proofs.Ytpmhnklmhfadlaa
open Go.RowKit

set_option maxRecDepth 100000 in
set_option maxHeartbeats 1000000 in
theorem fitsA_eq (m k b off cc B q q0 : Nat) (xs : List Int) (w : World) (hx : Blk w q0 26 #[.int .i64 m, .int .i64 k, .slice (some ⟨b, off, none⟩) xs.length cc]) (hR : Rd w B (some ⟨b, off, none⟩) xs.length cc xs) (hB : B ≤ w.heap.size) (m1 : 1 ≤ m) (m8 : m ≤ 8) (k8 : k ≤ 8) (hl : Hid (xs.length = m * k)) (hq : q ≤ m) :
    Calls Try.prog 35 #[.int .i64 q, .pointer (some ⟨q0, 0, none⟩)] w (Out w (.bool (acrossB m k xs q))) := by
  have e0 := hx.cell 0
  have e1 := hx.cell 1
  have e2 := hx.cell 2
  have hb0 := Lib.hid (Below.refl w.heap.size w)
  clear hx
  go_enter Try.func35, Try.ntmps35
  go_wp2_with fail
  refine (hasPeriodAcross_eq m k b off cc B q xs w hR hB m1 m8 k8 hl hq _ rfl).mono ?_
  rintro e w2 ⟨rfl, hb2⟩
  clear e0 e1 e2
  go_wp2
  go_ret
  exact ⟨rfl, hb2⟩
set_option maxRecDepth 100000 in
set_option maxHeartbeats 2000000 in
theorem smallestA_any (most q0 : Nat) (w : World) (g : Nat → Bool) (h1 : 1 ≤ most) (h8 : most ≤ 8)
    (hp : Hid (∀ (W : World) (q : Nat), 1 ≤ q → q < most → Below w.heap.size w W → Calls Try.prog 35 #[.int .i64 q, .pointer (some ⟨q0, 0, none⟩)] W (Out W (.bool (g q))))) :
    Calls Try.prog 24 #[.int .i64 most, .func (.func 35) #[] #[.pointer (some ⟨q0, 0, none⟩)]] w (Out w (.int .i64 (firstP g (most - 1) 1))) := by
  have hb0 := Lib.hid (Below.refl w.heap.size w)
  obtain ⟨R, HR⟩ : ∃ R, Hid (firstP g (most - 1) 1 = R) := ⟨_, rfl⟩
  rw [HR.out]
  go_enter Try.func24, Try.ntmps24
  go_wp2
  go_loopw [5] (fun s5 wr => ∃ n : Nat, 1 ≤ n ∧ n ≤ most ∧ s5 = .int .i64 n ∧ Hid (firstP g (most - n) n = R) ∧ Hid (Below w.heap.size w wr)) (fun s5 _ => most - (intOf s5).toNat)
  case atStart => exact ⟨1, Nat.le_refl _, h1, rfl, HR, hb0⟩
  case round =>
    clear HR hb0
    obtain ⟨n, hn1, hnm, rfl, HR, HB⟩ := hrel
    have hwz := HB.out.size
    by_cases hlt : n < most
    · have hlt' : (n : Int) < (most : Int) := by omega
      have hcall := Lib.hid (hp.out wr n hn1 hlt HB.out)
      have hyes := Lib.hid (fun hh : g n = true => (firstP_yes (n := most - n) hh).symm.trans HR.out)
      have hno := Lib.hid (fun hh : g n = false => (show firstP g (most - (n + 1)) (n + 1) = R by
        have e : most - n = (most - (n + 1)) + 1 := by omega
        rw [← HR.out, e, firstP_no hh]))
      cases hq : g n with
      | true =>
        rw [hq] at hcall
        have HE := Lib.hid (hyes.out hq)
        clear hyes hno hq
        go_wp2_with (go_at_call 35; refine hcall.out.mono ?_; rintro e w2 ⟨rfl, hb2⟩)
        go_ret
        exact ⟨ret_int (by rw [← HE.out]), HB.out.trans (hb2.mono hwz)⟩
      | false =>
        rw [hq] at hcall
        have HE := Lib.hid (hno.out hq)
        clear hyes hno hq
        go_wp2_with (go_at_call 35; refine hcall.out.mono ?_; rintro e w2 ⟨rfl, hb2⟩)
        have HB2 := Lib.hid (HB.out.trans (hb2.mono hwz))
        go_roundw
        case rel => exact ⟨n + 1, by omega, by omega, by go_num, HE, HB2⟩
        case measure => simp [intOf]; omega
    · obtain rfl : n = most := by omega
      have HE := Lib.hid (show n = R by rw [← HR.out, Nat.sub_self]; rfl)
      go_wp2
      go_ret
      exact ⟨ret_int (by rw [← HE.out]), HB.out⟩
set_option maxRecDepth 100000 in
set_option maxHeartbeats 2000000 in
theorem implPeriodAcross_any (W H : Int) (A : Option Addr) (n c B : Nat) (xs : List Int) (w : World) (hR : Rd w B A n c xs) (hB : B ≤ w.heap.size) :
    Calls Try.prog 9 #[chartV W H (.slice A n c)] w (Out w (.tuple #[.int .i64 (perAN W H xs), .bool (goodB W H xs)])) := by
  have hb0 := Lib.hid ((Below.refl w.heap.size w).alloc (Nat.le_refl _) (.cells #[.int .i64 W, .int .i64 H, .slice A n c] 26))
  have h' := Lib.hid (hR.alloc hB (.cells #[.int .i64 W, .int .i64 H, .slice A n c] 26))
  have x0 := Blk.new w #[.int .i64 W, .int .i64 H, .slice A n c] 26
  by_cases hg : goodB W H xs = true
  · have hv : perAN W H xs = _ := if_pos hg
    rw [hv, hg]
    clear hv
    obtain ⟨m, k, rfl, rfl, m1, m8, k1, k8, hl, h64, hl1, _⟩ := good_nat hg
    simp only [Int.toNat_natCast]
    obtain rfl := hR.len
    obtain ⟨b, off, rfl, _, _⟩ := hR.cells (by omega)
    clear hR
    go_enter Try.func9, Try.ntmps9
    go_wp2_with fail
    refine (implIsChart_any m k _ _ c B xs _ h'.out (by simp; omega)).mono ?_
    rintro e w1 ⟨rfl, hb⟩
    have x1 := x0.all hb
    have R1 := h'.out.all hb (by simp; omega)
    have HB := Lib.hid (hb0.out.trans (hb.mono (by simp)))
    have hz1 : w.heap.size ≤ w1.heap.size := HB.out.size
    have hxl := x1.lt
    rw [hg]
    clear hb x0 h' hb0 hg
    have e0 := x1.cell 0
    have hp := Lib.hid (show ∀ (W : World) (q : Nat), 1 ≤ q → q < m → Below w1.heap.size w1 W → Calls Try.prog 35 #[.int .i64 q, .pointer (some ⟨w.heap.size, 0, none⟩)] W (Out W (.bool (acrossB m k xs q))) from fun W q _ hqm hbW =>
      fitsA_eq m k b off c B q w.heap.size xs W (x1.all hbW) (R1.all hbW (Nat.le_trans hB hz1)) (Nat.le_trans (Nat.le_trans hB hz1) hbW.size) m1 m8 k8 hl (by omega))
    have hRR := Lib.hid (show firstP (acrossB m k xs) (m - 1) 1 = perA m k xs from rfl)
    go_wp2_with fail
    refine (smallestA_any m w.heap.size w1 (acrossB m k xs) m1 m8 hp).mono ?_
    rintro e w2 ⟨rfl, hb2⟩
    have HB2 := Lib.hid (HB.out.trans (hb2.mono hz1))
    clear e0 hp hRR x1 R1 HB hb2
    go_wp2
    go_ret2
    exact ⟨rfl, HB2.out⟩
  · have hn0 := not_false hg
    have hv : perAN W H xs = 0 := if_neg hg
    have HV := Lib.hid hv
    have HG := Lib.hid hn0
    clear hv
    go_enter Try.func9, Try.ntmps9
    go_wp2_with fail
    refine (implIsChart_any W H A n c B xs _ h'.out (by simp; omega)).mono ?_
    rintro e w1 ⟨rfl, hb⟩
    have HB := Lib.hid (hb0.out.trans (hb.mono (by simp)))
    rw [hn0]
    clear hb x0 hg hn0
    go_wp2
    go_ret2
    exact ⟨ret_ib6 HV.out.symm HG.out.symm, HB.out⟩
end Go.Proofs.Ytpmhnklmhfadlaa
