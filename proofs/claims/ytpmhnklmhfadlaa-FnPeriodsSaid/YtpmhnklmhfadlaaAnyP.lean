/- The walk of the model's AnyWayPlaces. No condition. -/
import Derived.Test.YtpmhnklmhfadlaaMgPlm
import Derived.Test.YtpmhnklmhfadlaaMgPlaces
import Derived.Test.YtpmhnklmhfadlaaMoved
namespace Go.Proofs.Ytpmhnklmhfadlaa
open Go.RowKit

set_option maxRecDepth 100000 in
set_option maxHeartbeats 8000000 in
theorem specAnyWayPlaces_any (W H : Int) (A : Option Addr) (n c B : Nat) (xs : List Int) (pW pH : Int) (A' : Option Addr) (n' c' B' : Nat) (ys : List Int) (w : World) (hR : Rd w B A n c xs) (hR' : Rd w B' A' n' c' ys) (hB : B ≤ w.heap.size) (hB' : B' ≤ w.heap.size) :
    Calls Try.prog 21 #[chartV W H (.slice A n c), chartV pW pH (.slice A' n' c')] w (Out w (.tuple #[.int .i64 (anyN W H xs pW pH ys), .bool (twoOk W H xs pW pH ys)])) := by
  have hb0 := Lib.hid (((Below.refl w.heap.size w).alloc (Nat.le_refl _) (.cells #[.int .i64 W, .int .i64 H, .slice A n c] 26)).alloc (by simp) (.cells #[.int .i64 pW, .int .i64 pH, .slice A' n' c'] 26))
  have h1 := Lib.hid ((hR.alloc hB (.cells #[.int .i64 W, .int .i64 H, .slice A n c] 26)).alloc (by simp; omega) (.cells #[.int .i64 pW, .int .i64 pH, .slice A' n' c'] 26))
  have h2 := Lib.hid ((hR'.alloc hB' (.cells #[.int .i64 W, .int .i64 H, .slice A n c] 26)).alloc (by simp; omega) (.cells #[.int .i64 pW, .int .i64 pH, .slice A' n' c'] 26))
  have x0 := (Blk.new w #[.int .i64 W, .int .i64 H, .slice A n c] 26).alloc (.cells #[.int .i64 pW, .int .i64 pH, .slice A' n' c'] 26)
  have p0 := (Blk.new (w.alloc (.cells #[.int .i64 W, .int .i64 H, .slice A n c] 26)) #[.int .i64 pW, .int .i64 pH, .slice A' n' c'] 26).at_ (q := w.heap.size + 1) (by simp)
  by_cases g1 : goodB W H xs = true
  rotate_left
  · have hno := not_false g1
    have H' := Lib.hid (any_no6 (pW := pW) (pH := pH) (ys := ys) (.inl hno))
    go_enter Try.func21, Try.ntmps21
    go_wp2_with fail
    refine (l2Good_any W H A n c B xs _ h1.out (by first | omega | (simp; done) | (simp; omega))).mono ?_
    rintro e w1 ⟨rfl, hb⟩
    have HB := Lib.hid (hb0.out.trans (hb.mono (by simp; omega)))
    rw [hno]
    clear hb x0 p0
    go_wp2
    go_ret2
    exact ⟨ret_ib H'.out.1.symm H'.out.2.symm, HB.out⟩
  by_cases g2 : goodB pW pH ys = true
  rotate_left
  · have hno := not_false g2
    have H' := Lib.hid (any_no6 (W := W) (H := H) (xs := xs) (.inr hno))
    go_enter Try.func21, Try.ntmps21
    go_wp2_with fail
    refine (l2Good_any W H A n c B xs _ h1.out (by first | omega | (simp; done) | (simp; omega))).mono ?_
    rintro e w1 ⟨rfl, hb⟩
    have HB := Lib.hid (hb0.out.trans (hb.mono (by simp; omega)))
    have p1 := p0.all hb
    have R2 := Lib.hid (h2.out.all hb (by simp; omega))
    have hz1 : w.heap.size ≤ w1.heap.size := HB.out.size
    have hz2 : B' ≤ w1.heap.size := Nat.le_trans hB' hz1
    have e0 := p1.cell 0
    have e1 := p1.cell 1
    have e2 := p1.cell 2
    rw [g1]
    clear hb x0 p0
    go_wp2_with fail
    refine (l2Good_any pW pH A' n' c' B' ys _ R2.out (by first | omega | (simp; done) | (simp; omega))).mono ?_
    rintro e w2 ⟨rfl, hb⟩
    have HB2 := Lib.hid (HB.out.trans (hb.mono hz1))
    clear HB hb
    have HB := HB2
    rw [hno]
    go_wp2
    go_ret2
    exact ⟨ret_ib H'.out.1.symm H'.out.2.symm, HB.out⟩
  have HV := Lib.hid (any_yes6 g1 g2)
  obtain ⟨m, kk, rfl, rfl, m1, m8, k1, k8, hl, h64, hl1, hcx⟩ := good_nat g1
  obtain ⟨pm, pk, rfl, rfl, pm1, pm8, pk1, pk8, hl', h64', hl1', hcy⟩ := good_nat g2
  simp only [Int.toNat_natCast] at *
  obtain rfl := hR.len
  obtain rfl := hR'.len
  obtain ⟨b, off, rfl, _, _⟩ := hR.cells (by omega)
  obtain ⟨b', off', rfl, _, _⟩ := hR'.cells (by omega)
  clear hR hR'
  go_enter Try.func21, Try.ntmps21
  go_wp2_with fail
  refine (l2Good_any m kk _ _ c B xs _ h1.out (by simp; omega)).mono ?_
  rintro e w1 ⟨rfl, hb⟩
  have x1 := x0.all hb
  have p1 := p0.all hb
  have RA1 := Lib.hid (h1.out.all hb (by simp; omega))
  have RB1 := Lib.hid (h2.out.all hb (by simp; omega))
  have HB1 := Lib.hid (hb0.out.trans (hb.mono (by simp; omega)))
  have hz1 : w.heap.size ≤ w1.heap.size := HB1.out.size
  have e0 := p1.cell 0
  have e1 := p1.cell 1
  have e2 := p1.cell 2
  rw [g1]
  clear hb x0 p0 h1 h2 hb0 g1
  go_wp2_with fail
  refine (l2Good_any pm pk _ _ c' B' ys _ RB1.out (Nat.le_trans hB' hz1)).mono ?_
  rintro e w2 ⟨rfl, hb⟩
  have x2 := x1.all hb
  have p2 := p1.all hb
  have RA := Lib.hid (RA1.out.all hb (Nat.le_trans hB hz1))
  have RB := Lib.hid (RB1.out.all hb (Nat.le_trans hB' hz1))
  have HB := Lib.hid (HB1.out.trans (hb.mono hz1))
  have hz2 : w.heap.size ≤ w2.heap.size := HB.out.size
  rw [g2]
  clear hb x1 p1 RA1 RB1 HB1 hz1 e0 e1 e2 g2
  have hpok : (⟨pm, pk, ys⟩ : Pic).Ok := pic_ok pm1 pm8 pk1 pk8 hl'.out
  obtain ⟨MP, HMP⟩ : ∃ MP : Pic, Hid ((⟨pm, pk, ys⟩ : Pic) = MP) := ⟨_, rfl⟩
  rw [HMP.out] at hpok HV
  have oS : OwnF chartsF (w2.alloc (.cells #[] 26)) w2.heap.size (.slice (some ⟨w2.heap.size, 0, none⟩) 0 0) [] := OwnF.empty chartsF (Nat.le_refl _)
  have hzp : w.heap.size + 1 < w2.heap.size := p2.lt
  have hzq : w2.heap.size ≤ (w2.alloc (.cells #[] 26)).heap.size := by simp
  replace x2 := x2.alloc (.cells #[] 26)
  replace p2 := p2.alloc (.cells #[] 26)
  have RA3 := RA.out.alloc (Nat.le_trans hB hz2) (.cells #[] 26)
  have RB3 := RB.out.alloc (Nat.le_trans hB' hz2) (.cells #[] 26)
  have HB3 := Lib.hid (HB.out.alloc hz2 (.cells #[] 26))
  clear RA RB HB hcx hcy
  go_wp2
  go_loopw [6, 7, 8] (fun s6 s7 s8 wr => ∃ (s : Nat) (A6 : Option Addr) (c6 : Nat) (hs : List ChR) (ps : List Pic) (tot : Nat), s ≤ 8 ∧ s8 = .int .i64 s ∧ s7 = .int .i64 tot ∧ s6 = .slice A6 hs.length c6 ∧ Hid (ps = seenP MP s) ∧ Hid (tot = anyTo m kk xs MP s) ∧ OwnF chartsF wr w2.heap.size (.slice A6 hs.length c6) hs ∧ Hid (SeenH wr w.heap.size hs ps) ∧
      Blk wr w.heap.size 26 #[.int .i64 m, .int .i64 kk, .slice (some ⟨b, off, none⟩) xs.length c] ∧ Blk wr (w.heap.size + 1) 26 #[.int .i64 pm, .int .i64 pk, .slice (some ⟨b', off', none⟩) ys.length c'] ∧ Rd wr B (some ⟨b, off, none⟩) xs.length c xs ∧ Rd wr B' (some ⟨b', off', none⟩) ys.length c' ys ∧ Hid (Below w.heap.size w wr) ∧ w2.heap.size ≤ wr.heap.size)
    (fun _ _ s8 _ => 8 - (intOf s8).toNat)
  case atStart => exact ⟨0, _, 0, [], [], 0, Nat.zero_le _, rfl, rfl, rfl, rfl, rfl, oS, SeenH.nil _ _, x2, p2, RA3, RB3, HB3, hzq⟩
  case round =>
    clear oS x2 p2 RA3 RB3 HB3 hzq
    obtain ⟨s, A6, c6, hs, ps, tot, hs8, rfl, rfl, rfl, HPS, HTOT, oS, HSEEN, x2, p2, RA, RB, HB, hzw⟩ := hrel
    have hz2 : w.heap.size ≤ wr.heap.size := HB.out.size
    have hhl : hs.length ≤ 8 := by
      have h1 := HSEEN.out.1
      have h2 := seenP_len (p := MP) (s := s)
      rw [← HPS.out] at h2
      omega
    have htot : tot ≤ 512 := by
      have := anyTo_le (s := s) (xs := xs) m8 k8 hpok
      rw [← HTOT.out] at this
      omega
    by_cases hlt : s < 8
    · have hs7 : s ≤ 7 := by omega
      have ep0 := p2.cell 0
      have ep1 := p2.cell 1
      have ep2 := p2.cell 2
      go_wp2_with fail
      refine (l4Move_any pm pk b' off' c' B' s ys _ RB (Nat.le_trans hB' hz2) (by rw [HMP.out]; exact hpok) hs7).mono ?_
      rw [HMP.out]
      rintro e w5 ⟨A5, c5, rfl, o5, hb⟩
      obtain ⟨N, HN⟩ : ∃ N : Pic, Hid (MP.move s = N) := ⟨_, rfl⟩
      have hNok := hpok.move s
      rw [HN.out] at o5 hNok ⊢
      obtain ⟨nm1, nm8, nk1, nk8, hnl⟩ := hNok
      have HNL := Lib.hid hnl
      have hn64 : N.m * N.k ≤ 64 := by
        have : N.m * N.k ≤ 8 * 8 := Nat.mul_le_mul nm8 nk8
        omega
      have hn1 : 1 ≤ N.xs.length := by
        have : 1 * 1 ≤ N.m * N.k := Nat.mul_le_mul nm1 nk1
        omega
      obtain ⟨g5, rfl, hg51, hg52⟩ := o5.some_ (by omega)
      replace x2 := x2.all hb
      replace p2 := p2.all hb
      replace oS := oS.all hb
      have HS5 := Lib.hid (HSEEN.out.all hb)
      replace RA := RA.all hb (Nat.le_trans hB hz2)
      replace RB := RB.all hb (Nat.le_trans hB' hz2)
      have HB5 := Lib.hid (HB.out.trans (hb.mono hz2))
      replace o5 := o5.mono hz2
      have hz5 : w.heap.size ≤ w5.heap.size := HB5.out.size
      have hzw5 : w2.heap.size ≤ w5.heap.size := Nat.le_trans hzw hb.size
      have HGQ := Lib.hid (fun k (hk : (Value.slice A6 hs.length c6).ownBlock = some k) => (oS.bd k hk).2)
      clear hb HSEEN HB ep0 ep1 ep2 hg51 hnl
      have bN := Blk.new w5 #[.int .i64 N.m, .int .i64 N.k, .slice (some ⟨g5, 0, none⟩) N.xs.length c5] 26
      replace x2 := x2.alloc (.cells #[.int .i64 N.m, .int .i64 N.k, .slice (some ⟨g5, 0, none⟩) N.xs.length c5] 26)
      replace p2 := p2.alloc (.cells #[.int .i64 N.m, .int .i64 N.k, .slice (some ⟨g5, 0, none⟩) N.xs.length c5] 26)
      replace oS := oS.alloc (.cells #[.int .i64 N.m, .int .i64 N.k, .slice (some ⟨g5, 0, none⟩) N.xs.length c5] 26)
      replace o5 := o5.alloc (.cells #[.int .i64 N.m, .int .i64 N.k, .slice (some ⟨g5, 0, none⟩) N.xs.length c5] 26)
      have HS6 := Lib.hid (HS5.out.all ((Below.refl _ _).alloc (Nat.le_refl _) (.cells #[.int .i64 N.m, .int .i64 N.k, .slice (some ⟨g5, 0, none⟩) N.xs.length c5] 26)))
      replace RA := RA.alloc (Nat.le_trans hB hz5) (.cells #[.int .i64 N.m, .int .i64 N.k, .slice (some ⟨g5, 0, none⟩) N.xs.length c5] 26)
      replace RB := RB.alloc (Nat.le_trans hB' hz5) (.cells #[.int .i64 N.m, .int .i64 N.k, .slice (some ⟨g5, 0, none⟩) N.xs.length c5] 26)
      have HB6 := Lib.hid (HB5.out.alloc hz5 (.cells #[.int .i64 N.m, .int .i64 N.k, .slice (some ⟨g5, 0, none⟩) N.xs.length c5] 26))
      obtain ⟨Q, HQ⟩ : ∃ Q, Hid (w5.heap.size = Q) := ⟨_, rfl⟩
      rw [HQ.out] at bN HGQ hzw5
      clear HS5 HB5
      go_wp2
      rw [HQ.out]
      obtain ⟨wo, HWO⟩ : ∃ wo, Hid (w5.alloc (.cells #[.int .i64 N.m, .int .i64 N.k, .slice (some ⟨g5, 0, none⟩) N.xs.length c5] 26) = wo) := ⟨_, rfl⟩
      rw [HWO.out] at x2 p2 oS o5 HS6 RA RB HB6 bN ⊢
      clear HWO
      go_loopw [10, 11] (fun s10 s11 wx => ∃ k : Nat, k ≤ hs.length ∧ s11 = .int .i64 k ∧ s10 = .bool ((ps.take k).any fun q => eqPic q N) ∧ Below wo.heap.size wo wx) (fun _ s11 _ => hs.length - (intOf s11).toNat)
      case atStart => exact ⟨0, Nat.zero_le _, rfl, rfl, Below.refl _ _⟩
      case round =>
        obtain ⟨k, hk, rfl, rfl, hbx⟩ := hrel
        have oSx := oS.all hbx
        have HSx := Lib.hid (HS6.out.all hbx)
        have bNx := bN.all hbx
        have o5x := o5.all hbx
        have HLL := Lib.hid HS6.out.1
        by_cases hkl : k < hs.length
        · obtain ⟨g6, rfl, hg6, _⟩ := oSx.some_ (by omega)
          obtain ⟨h, HH⟩ : ∃ h, Hid (hs[k]? = some h) := ⟨_, List.getElem?_eq_getElem hkl⟩
          obtain ⟨q, HQ2⟩ : ∃ q, Hid (ps[k]? = some q) := ⟨_, List.getElem?_eq_getElem (by have := HLL.out; omega)⟩
          obtain ⟨e1, e2, e3, oq⟩ := HSx.out.2 k h q HH.out HQ2.out
          obtain ⟨hW, hH, hA, hn, hc⟩ := h
          simp only at e1 e2 e3 oq
          subst e1; subst e2; subst e3
          have d0 : wr.cell? ⟨g6, k * 3, none⟩ = some (.int .i64 (q.m : Int)) := oSx.cell (i := 0) HH.out rfl
          have d1 : wr.cell? ⟨g6, k * 3 + 1, none⟩ = some (.int .i64 (q.k : Int)) := oSx.cell (i := 1) HH.out rfl
          have d2 : wr.cell? ⟨g6, k * 3 + 2, none⟩ = some (.slice hA q.xs.length hc) := oSx.cell (i := 2) HH.out rfl
          have n0 := bNx.cell 0
          have n1 := bNx.cell 1
          have n2 := bNx.cell 2
          obtain ⟨j, hj⟩ := seenP_mem (p := MP) (s := s) (by rw [← HPS.out]; exact List.mem_of_getElem? HQ2.out)
          have hqok : q.Ok := hj ▸ hpok.move j
          have HLEN : Hid (N.m = q.m → N.k = q.k → N.xs.length = q.xs.length) := Lib.hid fun a b => by rw [HNL.out, a, b]; exact hqok.2.2.2.2.symm
          obtain ⟨kb, HKB⟩ : ∃ kb, Hid (((ps.take k).any fun q => eqPic q N) = kb) := ⟨_, rfl⟩
          obtain ⟨d, HD⟩ : ∃ d, Hid (decide (N.m = q.m ∧ N.k = q.k ∧ N.xs = q.xs) = d) := ⟨_, rfl⟩
          have HN2 := Lib.hid (show ((ps.take (k + 1)).any fun q => eqPic q N) = (kb || d) by rw [any_step HQ2.out, HKB.out]; exact congrArg _ HD.out)
          rw [HKB.out]
          have hk0 : (0 : Int) ≤ (k : Int) := by omega
          have hkn : (k : Int) < (hs.length : Int) := by omega
          have R1d := oq.rd.drew
          have R2d := o5x.rd.drew
          have hzd : wr.heap.size ≤ wr.drew.heap.size := Nat.le_refl _
          have hzQ := bNx.lt
          have hzo : wo.heap.size ≤ wr.heap.size := hbx.size
          have hg6l : g6 < wr.heap.size := (oSx.bd g6 rfl).2
          have HBX := Lib.hid hbx
          clear hbx hj hqok oq
          cases kb with
          | true =>
            clear R1d R2d HD
            go_wp2
            go_quiet (fail)
            go_wp2
            go_roundw
            case rel => exact ⟨k + 1, by omega, by go_num, by rw [HN2.out]; rfl, belowN HBX.out _⟩
            case measure => simp [intOf]; omega
          | false =>
            go_wp2
            go_region_held3 (fun w' => w'.cell? ⟨g6, k * 3, none⟩ = some (.int .i64 (q.m : Int)) ∧ w'.cell? ⟨g6, k * 3 + 1, none⟩ = some (.int .i64 (q.k : Int)) ∧ w'.cell? ⟨g6, k * 3 + 2, none⟩ = some (.slice hA q.xs.length hc) ∧ w'.cell? ⟨Q, 0, none⟩ = some (.int .i64 N.m) ∧ w'.cell? ⟨Q, 1, none⟩ = some (.int .i64 N.k) ∧ w'.cell? ⟨Q, 2, none⟩ = some (.slice (some ⟨g5, 0, none⟩) N.xs.length c5)) (first | exact ⟨d0, d1, d2, n0, n1, n2⟩ | go_keep) (first | (go_at_call 52; (with_reducible refine (l4Same_eq q.m q.k N.m N.k _ hc _ c5 _ _ _ _ q.xs N.xs _ R1d R2d hzd hzd HLEN.out d HD.out).mono ?_); rintro e w4 ⟨rfl, hb4⟩; (try replace hb4 := below_drew' hb4); have HB4 := Lib.hid (HBX.out.trans (hb4.mono hzo)); replace d0 := cells_of hb4 d0 hg6l; replace d1 := cells_of hb4 d1 hg6l; replace d2 := cells_of hb4 d2 hg6l; replace n0 := cells_of hb4 n0 hzQ; replace n1 := cells_of hb4 n1 hzQ; replace n2 := cells_of hb4 n2 hzQ; clear hb4))
            go_wp2
            go_roundw
            case rel => exact ⟨k + 1, by omega, by go_num, by rw [HN2.out]; rfl, HB4.out⟩
            case measure => simp [intOf]; omega
        · obtain rfl : k = hs.length := by omega
          rw [List.take_of_length_le (by have := HLL.out; omega)]
          have x2x := x2.all hbx
          have p2x := p2.all hbx
          have hzo : wo.heap.size ≤ wr.heap.size := hbx.size
          have hz6 : w.heap.size ≤ wo.heap.size := HB6.out.size
          have hz7 : w.heap.size ≤ wr.heap.size := Nat.le_trans hz6 hzo
          have hzw9 : w2.heap.size ≤ wr.heap.size := by have := bNx.lt; omega
          have RAx := RA.all hbx (Nat.le_trans hB hz6)
          have RBx := RB.all hbx (Nat.le_trans hB' hz6)
          have HBx := Lib.hid (HB6.out.trans (hbx.mono hz6))
          clear hbx x2 p2 RA RB HB6 oS HS6 o5 bN
          obtain ⟨kb, HKB⟩ : ∃ kb, Hid ((ps.any fun q => eqPic q N) = kb) := ⟨_, rfl⟩
          rw [HKB.out]
          have n0 := bNx.cell 0
          have n1 := bNx.cell 1
          have n2 := bNx.cell 2
          cases kb with
          | true =>
            have HA := HKB.out
            rw [HPS.out, ← HN.out] at HA
            have H1 := Lib.hid (show ps = seenP MP (s + 1) by rw [seenP_yes HA]; exact HPS.out)
            have H2 := Lib.hid (show tot = anyTo m kk xs MP (s + 1) by rw [any_yes HA]; exact HTOT.out)
            clear HA HPS HTOT
            go_wp2
            go_roundw
            case rel => exact ⟨s + 1, A6, c6, hs, ps, tot, by omega, by go_num, rfl, rfl, H1, H2, oSx, HSx, x2x, p2x, RAx, RBx, HBx, hzw9⟩
            case measure => simp [intOf]; omega
          | false =>
            have HA := HKB.out
            rw [HPS.out, ← HN.out] at HA
            have H1 := Lib.hid (show ps ++ [N] = seenP MP (s + 1) by rw [seenP_no HA, ← HPS.out, HN.out])
            have H2 := Lib.hid (show tot + (placesL m kk xs N.m N.k N.xs).length = anyTo m kk xs MP (s + 1) by rw [any_no HA, ← HTOT.out, HN.out])
            clear HA HPS HTOT
            have hr := RdF.lit (F := chartsF) (w := wr) (cs := #[.int .i64 N.m, .int .i64 N.k, .slice (some ⟨g5, 0, none⟩) N.xs.length c5]) (a := ⟨N.m, N.k, some ⟨g5, 0, none⟩, N.xs.length, c5⟩) rfl trivial
            have oA := oSx.alloc (.cells #[.int .i64 N.m, .int .i64 N.k, .slice (some ⟨g5, 0, none⟩) N.xs.length c5] chartsF.t)
            have o5A := o5x.alloc (.cells #[.int .i64 N.m, .int .i64 N.k, .slice (some ⟨g5, 0, none⟩) N.xs.length c5] chartsF.t)
            have xA := x2x.alloc (.cells #[.int .i64 N.m, .int .i64 N.k, .slice (some ⟨g5, 0, none⟩) N.xs.length c5] chartsF.t)
            have pA := p2x.alloc (.cells #[.int .i64 N.m, .int .i64 N.k, .slice (some ⟨g5, 0, none⟩) N.xs.length c5] chartsF.t)
            have nA := bNx.alloc (.cells #[.int .i64 N.m, .int .i64 N.k, .slice (some ⟨g5, 0, none⟩) N.xs.length c5] chartsF.t)
            have HSA := Lib.hid (HSx.out.all ((Below.refl _ _).alloc (Nat.le_refl _) (.cells #[.int .i64 N.m, .int .i64 N.k, .slice (some ⟨g5, 0, none⟩) N.xs.length c5] chartsF.t)))
            have RAA := RAx.alloc (Nat.le_trans hB hz7) (.cells #[.int .i64 N.m, .int .i64 N.k, .slice (some ⟨g5, 0, none⟩) N.xs.length c5] chartsF.t)
            have RBA := RBx.alloc (Nat.le_trans hB' hz7) (.cells #[.int .i64 N.m, .int .i64 N.k, .slice (some ⟨g5, 0, none⟩) N.xs.length c5] chartsF.t)
            have HBA := Lib.hid (HBx.out.alloc hz7 (.cells #[.int .i64 N.m, .int .i64 N.k, .slice (some ⟨g5, 0, none⟩) N.xs.length c5] chartsF.t))
            have hz8 : w.heap.size ≤ (wr.alloc (.cells #[.int .i64 N.m, .int .i64 N.k, .slice (some ⟨g5, 0, none⟩) N.xs.length c5] chartsF.t)).heap.size := by simp; omega
            clear x2x p2x RAx RBx HBx bNx HSx
            have HSP := Lib.hid (HSA.out.push (x := ⟨N.m, N.k, some ⟨g5, 0, none⟩, N.xs.length, c5⟩) (q := N) rfl rfl rfl o5A)
            have hz9 : w2.heap.size ≤ (wr.alloc (.cells #[.int .i64 N.m, .int .i64 N.k, .slice (some ⟨g5, 0, none⟩) N.xs.length c5] chartsF.t)).heap.size := by simp; omega
            clear HSA o5A
            go_wp2_with (refine wpList_appendF chartsF rfl _ (.tmp 45) (.tmp 47) 51 (.agg #[.int .i64 0, .int .i64 0, .slice none 0 0]) 40 rfl Try.underlying51 info_Chart6 rfl (by decide) (by decide) w2.heap.size _ hs [⟨N.m, N.k, some ⟨g5, 0, none⟩, N.xs.length, c5⟩] wr.heap.size 0 1 1 (wr.heap.size + 1) rfl rfl oA hr (by simp; omega) hz9 ?_)
            intro A7 c7 w7 o7 hg7
            have HS7 := Lib.hid (HSP.out.mark oA.1 hg7)
            have x7 := xA.mark hg7 (fun z hz => by have := (oA.bd z hz).1; omega)
            have p7 := pA.mark hg7 (fun z hz => by have := (oA.bd z hz).1; omega)
            have n7 := nA.mark hg7 (fun z hz => by have := HGQ.out z hz; omega)
            have RA7 := RAA.mark hg7 (fun z hz => by have := (oA.bd z hz).1; omega) (Nat.le_trans hB hz8)
            have RB7 := RBA.mark hg7 (fun z hz => by have := (oA.bd z hz).1; omega) (Nat.le_trans hB' hz8)
            have HB7 := Lib.hid (HBA.out.grown hg7 hz8 (fun z hz => by have := (oA.bd z hz).1; omega))
            have oN7 : Own w7 w.heap.size (.slice (some ⟨g5, 0, none⟩) N.xs.length c5) N.xs := (HS7.out.2 hs.length ⟨N.m, N.k, some ⟨g5, 0, none⟩, N.xs.length, c5⟩ N (by simp) (by rw [HLL.out]; simp)).2.2.2
            have hz10 : w.heap.size ≤ w7.heap.size := HB7.out.size
            have hzw10 : w2.heap.size ≤ w7.heap.size := Nat.le_trans hz9 hg7.size
            clear oA xA pA nA RAA RBA HBA HSP hr hg7 n0 n1 n2
            have n0 := n7.cell 0
            have n1 := n7.cell 1
            have n2 := n7.cell 2
            have f0 := x7.cell 0
            have f1 := x7.cell 1
            have f2 := x7.cell 2
            go_wp2_with fail
            refine (l6Places_any m kk N.m N.k b off c B g5 0 c5 _ xs N.xs _ RA7 oN7.rd (Nat.le_trans hB hz10) (Nat.le_refl _) m8 k8 nm1 nk1 nm8 nk8 hl HNL (by have := hl.out; omega)).mono ?_
            rintro e w8 ⟨A8, c8, rfl, oL, hb⟩
            have hLen : (placesL m kk xs N.m N.k N.xs).length ≤ 64 := placesL_len m8 k8 nm1 nk1
            obtain ⟨L, HL⟩ : ∃ L, Hid ((placesL m kk xs N.m N.k N.xs).length = L) := ⟨_, rfl⟩
            rw [HL.out] at hLen H2 ⊢
            have o8 := o7.all hb
            have HS8 := Lib.hid (HS7.out.all hb)
            have x8 := x7.all hb
            have p8 := p7.all hb
            have RA8 := RA7.all hb (Nat.le_trans hB hz10)
            have RB8 := RB7.all hb (Nat.le_trans hB' hz10)
            have HB8 := Lib.hid (HB7.out.trans (hb.mono hz10))
            have hzw8 : w2.heap.size ≤ w8.heap.size := Nat.le_trans hzw10 hb.size
            have hwr : IntKind.i64.wrap ((tot : Int) + (L : Int)) = ((tot + L : Nat) : Int) := by rw [Int.natCast_add]; exact IntWalk.i64_in _ (by omega)
            clear hb oL o7 HS7 x7 p7 n7 RA7 RB7 HB7 oN7 n0 n1 n2 f0 f1 f2 HL
            go_wp2
            go_roundw
            case rel => exact ⟨s + 1, A7, c7, hs ++ [⟨N.m, N.k, some ⟨g5, 0, none⟩, N.xs.length, c5⟩], ps ++ [N], tot + L, by omega, by go_num, by rw [Int.natCast_add], by rw [List.length_append]; rfl, H1, H2, by rw [List.length_append]; exact o8, HS8, x8, p8, RA8, RB8, HB8, hzw8⟩
            case measure => simp [intOf]; omega
    · obtain rfl : s = 8 := by omega
      have HN := Lib.hid (show (anyTo m kk xs MP 8 : Int) = (tot : Int) by rw [HTOT.out])
      clear HTOT
      go_wp2
      go_ret2
      exact ⟨ret_ib (HN.out.symm.trans HV.out.1.symm) HV.out.2.symm, HB.out⟩
end Go.Proofs.Ytpmhnklmhfadlaa
