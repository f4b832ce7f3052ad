/- The walk of the model's ApartPlaces. No condition. -/
import Derived.Test.YtpmhnklmhfadlaaMgPlm
import Derived.Test.YtpmhnklmhfadlaaMgPlaces
namespace Go.Proofs.Ytpmhnklmhfadlaa
open Go.RowKit

theorem drewN_two (w : World) (a b : Nat) : (w.drewN a).drewN b = w.drewN (a + b) := by
  simp [World.drewN, Nat.add_assoc]
theorem l1Most_eq6 (a b v : Int) (w : World) (h : mostI a b = v) : Calls Try.prog 49 #[.int .i64 a, .int .i64 b] w fun e w' => e = .returned (.int .i64 v) ∧ w = w' := h ▸ l1Most_any a b w
set_option maxRecDepth 100000 in
set_option maxHeartbeats 8000000 in
theorem specApartPlaces_any (W H : Int) (A : Option Addr) (n c B : Nat) (xs : List Int) (pW pH : Int) (A' : Option Addr) (n' c' B' : Nat) (ys : List Int) (w : World) (hR : Rd w B A n c xs) (hR' : Rd w B' A' n' c' ys) (hB : B ≤ w.heap.size) (hB' : B' ≤ w.heap.size) :
    Calls Try.prog 19 #[chartV W H (.slice A n c), chartV pW pH (.slice A' n' c')] w (Out w (.tuple #[.int .i64 (apartN W H xs pW pH ys), .bool (twoOk W H xs pW pH ys)])) := by
  have hb0 := Lib.hid (((Below.refl w.heap.size w).alloc (Nat.le_refl _) (.cells #[.int .i64 W, .int .i64 H, .slice A n c] 26)).alloc (by simp) (.cells #[.int .i64 pW, .int .i64 pH, .slice A' n' c'] 26))
  have h1 := Lib.hid ((hR.alloc hB (.cells #[.int .i64 W, .int .i64 H, .slice A n c] 26)).alloc (by simp; omega) (.cells #[.int .i64 pW, .int .i64 pH, .slice A' n' c'] 26))
  have h2 := Lib.hid ((hR'.alloc hB' (.cells #[.int .i64 W, .int .i64 H, .slice A n c] 26)).alloc (by simp; omega) (.cells #[.int .i64 pW, .int .i64 pH, .slice A' n' c'] 26))
  have x0 := (Blk.new w #[.int .i64 W, .int .i64 H, .slice A n c] 26).alloc (.cells #[.int .i64 pW, .int .i64 pH, .slice A' n' c'] 26)
  have p0 := (Blk.new (w.alloc (.cells #[.int .i64 W, .int .i64 H, .slice A n c] 26)) #[.int .i64 pW, .int .i64 pH, .slice A' n' c'] 26).at_ (q := w.heap.size + 1) (by simp)
  by_cases g1 : goodB W H xs = true
  rotate_left
  · have hno := not_false g1
    have H' := Lib.hid (apart_no6 (pW := pW) (pH := pH) (ys := ys) (.inl hno))
    go_enter Try.func19, Try.ntmps19
    go_wp2_with fail
    refine (l2Good_any W H A n c B xs _ h1.out (by first | omega | (simp; done) | (simp; omega))).mono ?_
    rintro e w1 ⟨rfl, hb⟩
    have HB := Lib.hid (hb0.out.trans (hb.mono (by simp; omega)))
    rw [hno]
    clear hb x0 p0
    go_wp2
    go_ret2
    exact ⟨ret_ib H'.out.1.symm H'.out.2.symm, HB.out⟩
  by_cases g2 : goodB pW pH ys = true
  rotate_left
  · have hno := not_false g2
    have H' := Lib.hid (apart_no6 (W := W) (H := H) (xs := xs) (.inr hno))
    go_enter Try.func19, Try.ntmps19
    go_wp2_with fail
    refine (l2Good_any W H A n c B xs _ h1.out (by first | omega | (simp; done) | (simp; omega))).mono ?_
    rintro e w1 ⟨rfl, hb⟩
    have HB := Lib.hid (hb0.out.trans (hb.mono (by simp; omega)))
    have p1 := p0.all hb
    have R2 := Lib.hid (h2.out.all hb (by simp; omega))
    have hz1 : w.heap.size ≤ w1.heap.size := HB.out.size
    have hz2 : B' ≤ w1.heap.size := Nat.le_trans hB' hz1
    have e0 := p1.cell 0
    have e1 := p1.cell 1
    have e2 := p1.cell 2
    rw [g1]
    clear hb x0 p0
    go_wp2_with fail
    refine (l2Good_any pW pH A' n' c' B' ys _ R2.out (by first | omega | (simp; done) | (simp; omega))).mono ?_
    rintro e w2 ⟨rfl, hb⟩
    have HB2 := Lib.hid (HB.out.trans (hb.mono hz1))
    clear HB hb
    have HB := HB2
    rw [hno]
    go_wp2
    go_ret2
    exact ⟨ret_ib H'.out.1.symm H'.out.2.symm, HB.out⟩
  have HV := Lib.hid (apart_yes6 g1 g2)
  obtain ⟨m, kk, rfl, rfl, m1, m8, k1, k8, hl, h64, hl1, hcx⟩ := good_nat g1
  obtain ⟨pm, pk, rfl, rfl, pm1, pm8, pk1, pk8, hl', h64', hl1', hcy⟩ := good_nat g2
  simp only [Int.toNat_natCast] at *
  obtain rfl := hR.len
  obtain rfl := hR'.len
  obtain ⟨b, off, rfl, _, _⟩ := hR.cells (by omega)
  obtain ⟨b', off', rfl, _, _⟩ := hR'.cells (by omega)
  clear hR hR'
  go_enter Try.func19, Try.ntmps19
  go_wp2_with fail
  refine (l2Good_any m kk _ _ c B xs _ h1.out (by simp; omega)).mono ?_
  rintro e w1 ⟨rfl, hb⟩
  have x1 := x0.all hb
  have p1 := p0.all hb
  have RA1 := Lib.hid (h1.out.all hb (by simp; omega))
  have RB1 := Lib.hid (h2.out.all hb (by simp; omega))
  have HB1 := Lib.hid (hb0.out.trans (hb.mono (by simp; omega)))
  have hz1 : w.heap.size ≤ w1.heap.size := HB1.out.size
  have e0 := p1.cell 0
  have e1 := p1.cell 1
  have e2 := p1.cell 2
  rw [g1]
  clear hb x0 p0 h1 h2 hb0 g1
  go_wp2_with fail
  refine (l2Good_any pm pk _ _ c' B' ys _ RB1.out (Nat.le_trans hB' hz1)).mono ?_
  rintro e w2 ⟨rfl, hb⟩
  have x2 := x1.all hb
  have p2 := p1.all hb
  have RA := Lib.hid (RA1.out.all hb (Nat.le_trans hB hz1))
  have RB := Lib.hid (RB1.out.all hb (Nat.le_trans hB' hz1))
  have HB := Lib.hid (HB1.out.trans (hb.mono hz1))
  have hz2 : w.heap.size ≤ w2.heap.size := HB.out.size
  rw [g2]
  clear hb x1 p1 RA1 RB1 HB1 hz1 e0 e1 e2 g2
  have ex0 := x2.cell 0
  have ex1 := x2.cell 1
  have ex2 := x2.cell 2
  have ey0 := p2.cell 0
  have ey1 := p2.cell 1
  have ey2 := p2.cell 2
  go_wp2_with fail
  refine (l6Places_any m kk pm pk b off c B b' off' c' B' xs ys _ RA.out RB.out (Nat.le_trans hB hz2) (Nat.le_trans hB' hz2) m8 k8 pm1 pk1 pm8 pk8 hl hl' (by have := hl.out; omega)).mono ?_
  rintro e w3 ⟨A3, c3, rfl, oL, hb⟩
  obtain ⟨L, HL⟩ : ∃ L, Hid (placesL m kk xs pm pk ys = L) := ⟨_, rfl⟩
  have hLen : (placesL m kk xs pm pk ys).length ≤ 64 := placesL_len m8 k8 pm1 pk1
  have HMEM : Hid (∀ a ∈ L, ∃ r q : Nat, a = ⟨(r : Int), (q : Int)⟩ ∧ r ≤ 8 ∧ q ≤ 8) := Lib.hid fun a ha => by
    rw [← HL.out] at ha
    obtain ⟨r, q, e, hr, hq, _⟩ := placesTo_mem ha
    exact ⟨r, q, e, by omega, by omega⟩
  rw [HL.out] at oL hLen ⊢ HV
  have hLb : ∀ k, (Value.slice A3 L.length c3).ownBlock = some k → k < w3.heap.size := fun k hk => (oL.bd k hk).2
  have HLB := Lib.hid hLb
  have p3 := p2.all hb
  have HB3 := Lib.hid (HB.out.trans (hb.mono hz2))
  have hz3 : w2.heap.size ≤ w3.heap.size := hb.size
  have hzp := p3.lt
  replace p3 := p3.alloc (.cells #[] 60)
  have oT : OwnF pairF (w3.alloc (.cells #[] 60)) w3.heap.size (.slice (some ⟨w3.heap.size, 0, none⟩) 0 0) [] := OwnF.empty pairF (Nat.le_refl _)
  replace oL := (oL.mono (lo' := w.heap.size) hz2).alloc (.cells #[] 60)
  have HB4 := Lib.hid (HB3.out.alloc HB3.out.size (.cells #[] 60))
  have hz4 : w.heap.size ≤ w3.heap.size := HB3.out.size
  have hz5 : w3.heap.size ≤ (w3.alloc (.cells #[] 60)).heap.size := by simp
  clear hb x2 p2 RA RB HB HB3 ex0 ex1 ex2 ey0 ey1 ey2 hLb hl hl' hcx hcy
  go_wp2
  go_loopw [7, 8] (fun s7 s8 wr => ∃ (i : Nat) (A : Option Addr) (c : Nat) (T : List PairR), i ≤ L.length ∧ s8 = .int .i64 i ∧ s7 = .slice A T.length c ∧ Hid (T = takenL pm pk [] (L.take i)) ∧ OwnF pairF wr w3.heap.size (.slice A T.length c) T ∧ OwnF pairF wr w.heap.size (.slice A3 L.length c3) L ∧
      Blk wr (w.heap.size + 1) 26 #[.int .i64 pm, .int .i64 pk, .slice (some ⟨b', off', none⟩) ys.length c'] ∧ Hid (Below w.heap.size w wr) ∧ w3.heap.size ≤ wr.heap.size)
    (fun _ s8 _ => L.length - (intOf s8).toNat)
  case atStart => exact ⟨0, _, 0, [], Nat.zero_le _, rfl, rfl, rfl, oT, oL, p3, HB4, hz5⟩
  case round =>
    clear oT oL p3 HB4 hz5
    obtain ⟨i, A, c, T, hi, rfl, rfl, HT, oT, oL, p3, HB, hzr⟩ := hrel
    have hTl : T.length ≤ 64 := by
      rw [HT.out]
      have h1 := takenL_len (pm := pm) (pk := pk) (L.take i) []
      rw [List.length_take] at h1
      simp at h1
      omega
    have HTM : Hid (∀ a ∈ T, a ∈ L) := Lib.hid fun a ha => by
      rw [HT.out] at ha
      rcases takenL_mem _ _ _ ha with h | h
      · simp at h
      · exact List.mem_of_mem_take h
    by_cases hlt : i < L.length
    · have hlti : (i : Int) < (L.length : Int) := by omega
      have hi0 : (0 : Int) ≤ (i : Int) := by omega
      obtain ⟨g3, rfl, hg3, _⟩ := oL.some_ (by omega)
      obtain ⟨a, HA⟩ : ∃ a, Hid (L[i]? = some a) := ⟨_, List.getElem?_eq_getElem hlt⟩
      obtain ⟨r, q, rfl, hr8, hq8⟩ := HMEM.out a (List.mem_of_getElem? HA.out)
      go_wp2
      obtain ⟨wo, rfl⟩ : ∃ wo : World, wo = wr := ⟨_, rfl⟩
      go_loopw [9, 10] (fun s9 s10 wx => ∃ p k : Nat, k ≤ T.length ∧ s10 = .int .i64 k ∧ s9 = .bool (freeB pm pk ⟨(r : Int), (q : Int)⟩ (T.take k)) ∧ wx = wo.drewN p) (fun _ s10 _ => T.length - (intOf s10).toNat)
      case atStart => exact ⟨0, 0, Nat.zero_le _, rfl, rfl, rfl⟩
      case round =>
        obtain ⟨p, k, hk, rfl, rfl, rfl⟩ := hrel
        by_cases hkt : k < T.length
        · obtain ⟨g7, rfl, hg7, _⟩ := oT.some_ (by omega)
          obtain ⟨t, HT2⟩ : ∃ t, Hid (T[k]? = some t) := ⟨_, List.getElem?_eq_getElem hkt⟩
          obtain ⟨r2, q2, rfl, hr28, hq28⟩ := HMEM.out t (HTM.out t (List.mem_of_getElem? HT2.out))
          have y1 : wo.cell? ⟨g3, i * 2, none⟩ = some (.int .i64 (r : Int)) := oL.cell (i := 0) HA.out rfl
          have y2 : wo.cell? ⟨g3, i * 2 + 1, none⟩ = some (.int .i64 (q : Int)) := oL.cell (i := 1) HA.out rfl
          have y3 : wo.cell? ⟨g7, k * 2, none⟩ = some (.int .i64 (r2 : Int)) := oT.cell (i := 0) HT2.out rfl
          have y4 : wo.cell? ⟨g7, k * 2 + 1, none⟩ = some (.int .i64 (q2 : Int)) := oT.cell (i := 1) HT2.out rfl
          have y5 := p3.cell 0
          have y6 := p3.cell 1
          obtain ⟨dn, hdn⟩ : ∃ dn, (r : Int) - (r2 : Int) = dn := ⟨_, rfl⟩
          obtain ⟨ac, hac⟩ : ∃ ac, (q : Int) - (q2 : Int) = ac := ⟨_, rfl⟩
          have hs1 : IntKind.i64.wrap ((r : Int) - (r2 : Int)) = dn := by rw [hdn]; exact IntWalk.i64_in _ (by omega)
          have hs2 : IntKind.i64.wrap ((q : Int) - (q2 : Int)) = ac := by rw [hac]; exact IntWalk.i64_in _ (by omega)
          have hs3 : IntKind.i64.wrap (-dn) = -dn := IntWalk.i64_in _ (by omega)
          have hs4 : IntKind.i64.wrap (-ac) = -ac := IntWalk.i64_in _ (by omega)
          obtain ⟨v1, HV1⟩ : ∃ v1, Hid (mostI dn (-dn) = v1) := ⟨_, rfl⟩
          obtain ⟨v2, HV2⟩ : ∃ v2, Hid (mostI ac (-ac) = v2) := ⟨_, rfl⟩
          obtain ⟨fk, HF⟩ : ∃ fk, Hid (freeB pm pk ⟨(r : Int), (q : Int)⟩ (T.take k) = fk) := ⟨_, rfl⟩
          have HN := Lib.hid (show freeB pm pk ⟨(r : Int), (q : Int)⟩ (T.take (k + 1)) = (fk && !(decide (v1 < (pk : Int)) && decide (v2 < (pm : Int)))) by
            rw [freeB_step HT2.out, HF.out]
            simp only [nearB]
            rw [hdn, hac, HV1.out, HV2.out])
          rw [HF.out]
          have hi0 : (0 : Int) ≤ (i : Int) := by omega
          have hk0 : (0 : Int) ≤ (k : Int) := by omega
          have hkl : (k : Int) < (T.length : Int) := by omega
          clear hdn hac
          go_wp2
          go_quiet (fail)
          by_cases c1 : v1 < (pk : Int)
          · have d1 : decide (v1 < (pk : Int)) = true := decide_eq_true c1
            by_cases c2 : v2 < (pm : Int)
            · have d2 : decide (v2 < (pm : Int)) = true := decide_eq_true c2
              rw [d1, d2] at HN
              go_wp2
              go_quiet (first | (go_at_call 49; refine (l1Most_eq6 _ _ _ _ HV1.out).mono ?_; rintro e wy ⟨rfl, rfl⟩; exact ⟨rfl, _, rfl⟩) | (go_at_call 49; refine (l1Most_eq6 _ _ _ _ HV2.out).mono ?_; rintro e wy ⟨rfl, rfl⟩; exact ⟨rfl, _, rfl⟩))
              go_wp2
              go_roundw
              case rel => exact ⟨_, k + 1, by omega, by go_num, by rw [HN.out]; simp, rfl⟩
              case measure => simp [intOf]; omega
            · have d2 : decide (v2 < (pm : Int)) = false := decide_eq_false c2
              rw [d1, d2] at HN
              clear c2
              go_wp2
              go_quiet (first | (go_at_call 49; refine (l1Most_eq6 _ _ _ _ HV1.out).mono ?_; rintro e wy ⟨rfl, rfl⟩; exact ⟨rfl, _, rfl⟩) | (go_at_call 49; refine (l1Most_eq6 _ _ _ _ HV2.out).mono ?_; rintro e wy ⟨rfl, rfl⟩; exact ⟨rfl, _, rfl⟩))
              go_wp2
              go_roundw
              case rel => exact ⟨_, k + 1, by omega, by go_num, by rw [HN.out]; simp, rfl⟩
              case measure => simp [intOf]; omega
          · have d1 : decide (v1 < (pk : Int)) = false := decide_eq_false c1
            rw [d1] at HN
            clear c1
            go_wp2
            go_quiet (first | (go_at_call 49; refine (l1Most_eq6 _ _ _ _ HV1.out).mono ?_; rintro e wy ⟨rfl, rfl⟩; exact ⟨rfl, _, rfl⟩))
            go_wp2
            go_roundw
            case rel => exact ⟨_, k + 1, by omega, by go_num, by rw [HN.out]; simp, rfl⟩
            case measure => simp [intOf]; omega
        · obtain rfl : k = T.length := by omega
          rw [List.take_of_length_le (Nat.le_refl _)]
          obtain ⟨ff, HF⟩ : ∃ ff, Hid (freeB pm pk ⟨(r : Int), (q : Int)⟩ T = ff) := ⟨_, rfl⟩
          rw [HF.out]
          have y1 : wo.cell? ⟨g3, i * 2, none⟩ = some (.int .i64 (r : Int)) := oL.cell (i := 0) HA.out rfl
          have y2 : wo.cell? ⟨g3, i * 2 + 1, none⟩ = some (.int .i64 (q : Int)) := oL.cell (i := 1) HA.out rfl
          have oTd := oT.all (low_drewN wo p)
          have oLd := oL.all (low_drewN wo p)
          have p3d := p3.all (low_drewN wo p)
          have HBd := Lib.hid (belowN HB.out p)
          have hzd : w3.heap.size ≤ (wo.drewN p).heap.size := hzr
          have y1d : (wo.drewN p).cell? ⟨g3, i * 2, none⟩ = some (.int .i64 (r : Int)) := y1
          have y2d : (wo.drewN p).cell? ⟨g3, i * 2 + 1, none⟩ = some (.int .i64 (q : Int)) := y2
          clear oT oL p3 HB hzr y1 y2
          obtain ⟨wd, hwd⟩ : ∃ wd, wo.drewN p = wd := ⟨_, rfl⟩
          rw [hwd] at oTd oLd p3d HBd hzd y1d y2d ⊢
          clear hwd
          cases ff with
          | true =>
            have HN := Lib.hid (show T ++ [⟨(r : Int), (q : Int)⟩] = takenL pm pk [] (L.take (i + 1)) by rw [takenL_step HA.out, ← HT.out, if_pos HF.out])
            clear HT
            have hr := RdF.lit (F := pairF) (w := wd) (cs := #[.int .i64 (r : Int), .int .i64 (q : Int)]) (a := ⟨(r : Int), (q : Int)⟩) rfl (ok_small (by omega) (by omega))
            have oA := oTd.alloc (.cells #[.int .i64 (r : Int), .int .i64 (q : Int)] pairF.t)
            have oLA := oLd.alloc (.cells #[.int .i64 (r : Int), .int .i64 (q : Int)] pairF.t)
            have hz10 : w3.heap.size ≤ (wd.alloc (.cells #[.int .i64 (r : Int), .int .i64 (q : Int)] pairF.t)).heap.size := by simp; omega
            have hz11 : w.heap.size ≤ (wd.alloc (.cells #[.int .i64 (r : Int), .int .i64 (q : Int)] pairF.t)).heap.size := by omega
            have pA := p3d.alloc (.cells #[.int .i64 (r : Int), .int .i64 (q : Int)] pairF.t)
            have HBA := Lib.hid (HBd.out.alloc (by omega) (.cells #[.int .i64 (r : Int), .int .i64 (q : Int)] pairF.t))
            have HLA := Lib.hid (fun k (hk : (Value.slice (some ⟨g3, 0, none⟩) L.length c3).ownBlock = some k) => HLB.out k hk)
            clear p3d HBd oLd
            go_wp2_with (refine wpList_appendF pairF rfl _ (.tmp 76) (.tmp 81) 36 (.agg #[.int .i64 0, .int .i64 0]) 16 rfl Try.underlying36 info_Pair rfl (by decide) (by decide) w3.heap.size _ T [⟨(r : Int), (q : Int)⟩] wd.heap.size 0 1 1 (wd.heap.size + 1) rfl rfl oA hr (by simp; omega) hz10 ?_)
            intro A5 c5 w5 o5 hg5
            have p5 := pA.mark hg5 (row_ne oA.1 pA (by decide))
            have oL5 := oLA.mark hg5 (fun k k' hk hk' => by have h1 := (oA.bd k hk).1; have h2 := HLA.out k' hk'; omega)
            have HB5 := Lib.hid (HBA.out.grown hg5 hz11 (fun z hz => Nat.le_trans hz4 (oA.bd z hz).1))
            have hz5 : w3.heap.size ≤ w5.heap.size := Nat.le_trans hz10 hg5.size
            clear oA pA HBA hr oTd hg5 oLA
            go_wp2
            go_roundw
            case rel => exact ⟨i + 1, A5, c5, T ++ [⟨(r : Int), (q : Int)⟩], by omega, by go_num, by rw [List.length_append]; rfl, HN, by rw [List.length_append]; exact o5, oL5, p5, HB5, hz5⟩
            case measure => simp [intOf]; omega
          | false =>
            have HN := Lib.hid (show T = takenL pm pk [] (L.take (i + 1)) by rw [takenL_step HA.out, ← HT.out, if_neg (by rw [HF.out]; decide)])
            clear HT
            go_wp2
            go_roundw
            case rel => exact ⟨i + 1, A, c, T, by omega, by go_num, rfl, HN, oTd, oLd, p3d, HBd, hzd⟩
            case measure => simp [intOf]; omega
    · have hge : ¬ (i : Int) < (L.length : Int) := by omega
      have HN := Lib.hid (show ((takenL pm pk [] L).length : Int) = (T.length : Int) by
        have h5 := HT.out
        rw [List.take_of_length_le (by omega)] at h5
        rw [h5])
      clear HT
      go_wp2
      go_ret2
      exact ⟨ret_ib (HN.out.symm.trans HV.out.1.symm) HV.out.2.symm, HB.out⟩
end Go.Proofs.Ytpmhnklmhfadlaa
