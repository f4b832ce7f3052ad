/- The walk of the program's ApartPlaces. No condition. -/
import Derived.Test.YtehhidpmbbabeaaPlacesOf
import Derived.Test.YtehhidpmbbabeaaContP
namespace Go.Proofs.Ytehhidpmbbabeaa
open Go.RowKit

theorem difference_eq (a b v : Int) (w : World) (ha : -1000 ≤ a ∧ a ≤ 1000) (hb : -1000 ≤ b ∧ b ≤ 1000) (hv : mostI (b - a) (-(b - a)) = v) :
    Calls Try.prog 73 #[.int .i64 a, .int .i64 b] w fun e w' => e = .returned (.int .i64 v) ∧ w = w' := by
  have h1 : IntKind.i64.wrap (a - b) = a - b := IntWalk.i64_in _ (by omega)
  have h2 : IntKind.i64.wrap (b - a) = b - a := IntWalk.i64_in _ (by omega)
  go_enter Try.func73, Try.ntmps73
  go_wp2
  go_ret
  exact ⟨ret_int (by rw [← hv]; unfold mostI; omega), by first | rfl | trivial⟩
set_option maxRecDepth 100000 in
set_option maxHeartbeats 2000000 in
theorem overlaps_eq (q0 q1 pm pk r2 c2 r c : Nat) (w : World) (hr : r ≤ 8) (hc : c ≤ 8) (hr2 : r2 ≤ 8) (hc2 : c2 ≤ 8) (g0 : w.cell? ⟨q0, 0, none⟩ = some (.int .i64 (r : Int))) (g1 : w.cell? ⟨q0, 1, none⟩ = some (.int .i64 (c : Int))) (hz0 : q0 < w.heap.size)
    (f0 : w.cell? ⟨q1, 0, none⟩ = some (.int .i64 (pm : Int))) (f1 : w.cell? ⟨q1, 1, none⟩ = some (.int .i64 (pk : Int))) (hz1 : q1 < w.heap.size) (d : Bool) (hd : nearB pm pk ⟨(r : Int), (c : Int)⟩ ⟨(r2 : Int), (c2 : Int)⟩ = d) :
    Calls Try.prog 72 #[.agg #[.int .i64 (r2 : Int), .int .i64 (c2 : Int)], .pointer (some ⟨q0, 0, none⟩), .pointer (some ⟨q1, 0, none⟩)] w (Out w (.bool d)) := by
  have hb0 := Lib.hid ((Below.refl w.heap.size w).alloc (Nat.le_refl _) (.cells #[.int .i64 (r2 : Int), .int .i64 (c2 : Int)] 66))
  obtain ⟨v1, HV1⟩ : ∃ v1, Hid (mostI ((r : Int) - (r2 : Int)) (-((r : Int) - (r2 : Int))) = v1) := ⟨_, rfl⟩
  obtain ⟨v2, HV2⟩ : ∃ v2, Hid (mostI ((c : Int) - (c2 : Int)) (-((c : Int) - (c2 : Int))) = v2) := ⟨_, rfl⟩
  have HN := Lib.hid (show (decide (v1 < (pk : Int)) && decide (v2 < (pm : Int))) = d by rw [← hd, ← HV1.out, ← HV2.out]; rfl)
  have hrr : -1000 ≤ (r : Int) ∧ (r : Int) ≤ 1000 := by omega
  have hcc : -1000 ≤ (c : Int) ∧ (c : Int) ≤ 1000 := by omega
  have hrr2 : -1000 ≤ (r2 : Int) ∧ (r2 : Int) ≤ 1000 := by omega
  have hcc2 : -1000 ≤ (c2 : Int) ∧ (c2 : Int) ≤ 1000 := by omega
  clear hd hr hc hr2 hc2
  by_cases c1 : v1 < (pk : Int)
  · have d1 : decide (v1 < (pk : Int)) = true := decide_eq_true c1
    by_cases c2' : v2 < (pm : Int)
    · have d2 : decide (v2 < (pm : Int)) = true := decide_eq_true c2'
      have HE := Lib.hid (show d = true by rw [← HN.out, d1, d2]; rfl)
      go_enter Try.func72, Try.ntmps72
      go_wp2
      go_quiet (first | (go_at_call 73; (with_reducible refine (difference_eq (r2 : Int) (r : Int) v1 _ hrr2 hrr HV1.out).mono ?_); rintro e wy ⟨rfl, rfl⟩; exact ⟨rfl, _, rfl⟩) | (go_at_call 73; (with_reducible refine (difference_eq (c2 : Int) (c : Int) v2 _ hcc2 hcc HV2.out).mono ?_); rintro e wy ⟨rfl, rfl⟩; exact ⟨rfl, _, rfl⟩))
      go_wp2
      go_ret
      exact ⟨ret_bool (by rw [HE.out]), by first | exact hb0.out | exact belowN hb0.out _ | exact belowN (belowN hb0.out _) _⟩
    · have d2 : decide (v2 < (pm : Int)) = false := decide_eq_false c2'
      have HE := Lib.hid (show d = false by rw [← HN.out, d1, d2]; rfl)
      go_enter Try.func72, Try.ntmps72
      go_wp2
      go_quiet (first | (go_at_call 73; (with_reducible refine (difference_eq (r2 : Int) (r : Int) v1 _ hrr2 hrr HV1.out).mono ?_); rintro e wy ⟨rfl, rfl⟩; exact ⟨rfl, _, rfl⟩) | (go_at_call 73; (with_reducible refine (difference_eq (c2 : Int) (c : Int) v2 _ hcc2 hcc HV2.out).mono ?_); rintro e wy ⟨rfl, rfl⟩; exact ⟨rfl, _, rfl⟩))
      go_wp2
      go_ret
      exact ⟨ret_bool (by rw [HE.out]), by first | exact hb0.out | exact belowN hb0.out _ | exact belowN (belowN hb0.out _) _⟩
  · have d1 : decide (v1 < (pk : Int)) = false := decide_eq_false c1
    have HE := Lib.hid (show d = false by rw [← HN.out, d1]; rfl)
    go_enter Try.func72, Try.ntmps72
    go_wp2
    go_quiet (first | (go_at_call 73; (with_reducible refine (difference_eq (r2 : Int) (r : Int) v1 _ hrr2 hrr HV1.out).mono ?_); rintro e wy ⟨rfl, rfl⟩; exact ⟨rfl, _, rfl⟩))
    go_wp2
    go_ret
    exact ⟨ret_bool (by rw [HE.out]), by first | exact hb0.out | exact belowN hb0.out _ | exact belowN (belowN hb0.out _) _⟩
set_option maxRecDepth 100000 in
set_option maxHeartbeats 8000000 in
theorem implApartPlaces_any (W H : Int) (A : Option Addr) (n c B : Nat) (xs : List Int) (pW pH : Int) (A' : Option Addr) (n' c' B' : Nat) (ys : List Int) (w : World) (hR : Rd w B A n c xs) (hR' : Rd w B' A' n' c' ys) (hB : B ≤ w.heap.size) (hB' : B' ≤ w.heap.size) :
    Calls Try.prog 35 #[chartV W H (.slice A n c), chartV pW pH (.slice A' n' c')] w (Out w (.tuple #[.int .i64 (apartN W H xs pW pH ys), .bool (twoOk W H xs pW pH ys)])) := by
  have hb0 := Lib.hid (((Below.refl w.heap.size w).alloc (Nat.le_refl _) (.cells #[.int .i64 W, .int .i64 H, .slice A n c] 26)).alloc (by simp) (.cells #[.int .i64 pW, .int .i64 pH, .slice A' n' c'] 26))
  have h1 := Lib.hid ((hR.alloc hB (.cells #[.int .i64 W, .int .i64 H, .slice A n c] 26)).alloc (by simp; omega) (.cells #[.int .i64 pW, .int .i64 pH, .slice A' n' c'] 26))
  have h2 := Lib.hid ((hR'.alloc hB' (.cells #[.int .i64 W, .int .i64 H, .slice A n c] 26)).alloc (by simp; omega) (.cells #[.int .i64 pW, .int .i64 pH, .slice A' n' c'] 26))
  have x0 := (Blk.new w #[.int .i64 W, .int .i64 H, .slice A n c] 26).alloc (.cells #[.int .i64 pW, .int .i64 pH, .slice A' n' c'] 26)
  have p0 := (Blk.new (w.alloc (.cells #[.int .i64 W, .int .i64 H, .slice A n c] 26)) #[.int .i64 pW, .int .i64 pH, .slice A' n' c'] 26).at_ (q := w.heap.size + 1) (by simp)
  obtain ⟨L0, HL0⟩ : ∃ L0, Hid (placesX W H xs pW pH ys = L0) := ⟨_, rfl⟩
  have hex := x0.cell 0
  have hep := p0.cell 0
  go_enter Try.func35, Try.ntmps35
  go_wp2_with fail
  refine (implPlacesOf_any W H A n c B xs pW pH A' n' c' B' ys _ h1.out h2.out (by simp; omega) (by simp; omega)).mono ?_
  rintro e w3 ⟨A3, c3, rfl, oL, hb⟩
  have p3 := p0.all hb
  have HB3 := Lib.hid (hb0.out.trans (hb.mono (by simp; omega)))
  have hz4 : w.heap.size ≤ w3.heap.size := HB3.out.size
  have hzp := p3.lt
  replace oL := oL.mono (lo' := w.heap.size) (by simp; omega)
  clear hb x0 p0 h1 h2 hb0 hex hep
  by_cases hok : twoOk W H xs pW pH ys = true
  rotate_left
  · have hno := not_false hok
    have hv : apartN W H xs pW pH ys = 0 := by unfold apartN; rw [hno]; rfl
    have HV := Lib.hid hv
    have HN := Lib.hid hno
    rw [hno]
    clear oL hv hok
    go_wp2
    go_ret2
    exact ⟨ret_ib HV.out.symm HN.out.symm, HB3.out⟩
  have hok2 := hok
  simp only [twoOk, Bool.and_eq_true] at hok2
  obtain ⟨g1, g2⟩ := hok2
  obtain ⟨hPX, _⟩ := places_yes g1 g2
  have HV := Lib.hid (apart_yes6 g1 g2).1
  rw [hok]
  obtain ⟨m, kk, rfl, rfl, m1, m8, k1, k8, _, _, _, _⟩ := good_nat g1
  obtain ⟨pm, pk, rfl, rfl, pm1, pm8, pk1, pk8, _, _, _, _⟩ := good_nat g2
  simp only [Int.toNat_natCast] at hPX HV
  rw [hPX] at oL ⊢ HL0
  have hLen : (placesL m kk xs pm pk ys).length ≤ 64 := placesL_len m8 k8 pm1 pk1
  have HMEM : Hid (∀ a ∈ placesL m kk xs pm pk ys, ∃ r q : Nat, a = ⟨(r : Int), (q : Int)⟩ ∧ r ≤ 8 ∧ q ≤ 8) := Lib.hid fun a ha => by
    obtain ⟨r, q, e, hr, hq, _⟩ := placesTo_mem ha
    exact ⟨r, q, e, by omega, by omega⟩
  have HVV := Lib.hid (HV.out)
  clear HV
  generalize placesL m kk xs pm pk ys = L at *
  have HOK := Lib.hid hok
  clear hPX HL0 g1 g2 hok
  have oT : OwnF pairF w3 w3.heap.size (.slice none 0 0) [] := OwnF.nil _ _ _
  have hz5 : w3.heap.size ≤ w3.heap.size := Nat.le_refl _
  go_wp2
  go_loopw [8, 22] (fun s8 s22 wr => ∃ (i : Nat) (A : Option Addr) (c : Nat) (T : List PairR), i ≤ L.length ∧ s22 = .int .i64 i ∧ s8 = .slice A T.length c ∧ Hid (T = takenL pm pk [] (L.take i)) ∧ OwnF pairF wr w3.heap.size (.slice A T.length c) T ∧ OwnF pairF wr w.heap.size (.slice A3 L.length c3) L ∧
      Blk wr (w.heap.size + 1) 26 #[.int .i64 pm, .int .i64 pk, .slice A' n' c'] ∧ Hid (Below w.heap.size w wr) ∧ w3.heap.size ≤ wr.heap.size ∧ (∀ k, (Value.slice A3 L.length c3).ownBlock = some k → k < w3.heap.size))
    (fun _ s22 _ => L.length - (intOf s22).toNat)
  case atStart => exact ⟨0, _, 0, [], Nat.zero_le _, rfl, rfl, rfl, oT, oL, p3.at_ (by simp), HB3, hz5, fun k hk => (oL.bd k hk).2⟩
  case round =>
    clear oT oL p3 HB3 hz5
    obtain ⟨i, A, c, T, hi, rfl, rfl, HT, oT, oL, p3, HB, hzr, hLb⟩ := hrel
    have hTl : T.length ≤ 64 := by
      rw [HT.out]
      have h1 := takenL_len (pm := pm) (pk := pk) (L.take i) []
      rw [List.length_take] at h1
      simp at h1
      omega
    by_cases hlt : i < L.length
    · obtain ⟨bL, oLf, a, rfl, hbL, _, HX, e0, e1⟩ := Pair_at oL.rd hlt
      obtain ⟨r, q, rfl, hr8, hq8⟩ := HMEM.out a (List.mem_of_getElem? HX.out)
      have hTM := Lib.hid (show ∀ t ∈ T, ∃ r q : Nat, t = ⟨(r : Int), (q : Int)⟩ ∧ r ≤ 8 ∧ q ≤ 8 from fun t ht => by
        rw [HT.out] at ht
        rcases takenL_mem _ _ _ ht with h | h
        · simp at h
        · exact HMEM.out t (List.mem_of_mem_take h))
      have hstep := Lib.hid (takenL_step (pm := pm) (pk := pk) HX.out)
      have hwz := HB.out.size
      have hpl := p3.lt
      obtain ⟨d, HD⟩ : ∃ d, Hid (T.any (fun t => nearB pm pk ⟨(r : Int), (q : Int)⟩ t) = d) := ⟨_, rfl⟩
      have hfree := Lib.hid (show freeB pm pk ⟨(r : Int), (q : Int)⟩ T = !d by
        rw [← HD.out]
        unfold freeB
        rw [List.not_any_eq_all_not])
      have o5 := oT.alloc (.cells #[.int .i64 (r : Int), .int .i64 (q : Int)] 66)
      have oL5 := oL.alloc (.cells #[.int .i64 (r : Int), .int .i64 (q : Int)] 66)
      have p5 := p3.alloc (.cells #[.int .i64 (r : Int), .int .i64 (q : Int)] 66)
      have y5 := Blk.new wr #[.int .i64 (r : Int), .int .i64 (q : Int)] 66
      have HB5 := Lib.hid (HB.out.alloc hwz (.cells #[.int .i64 (r : Int), .int .i64 (q : Int)] 66))
      have hp := Lib.hid (show ∀ (W : World) (a : PairR), a ∈ T → Below (wr.alloc (.cells #[.int .i64 (r : Int), .int .i64 (q : Int)] 66)).heap.size (wr.alloc (.cells #[.int .i64 (r : Int), .int .i64 (q : Int)] 66)) W → Calls Try.prog 72 #[.agg #[.int .i64 a.f0, .int .i64 a.f1], .pointer (some ⟨wr.heap.size, 0, none⟩), .pointer (some ⟨w.heap.size + 1, 0, none⟩)] W (Out W (.bool ((fun t => nearB pm pk ⟨(r : Int), (q : Int)⟩ t) a))) from fun W t ht hbW => by
        obtain ⟨r2, q2, rfl, hr2, hq2⟩ := hTM.out t ht
        have yW := y5.all hbW
        have pW := p5.all hbW
        exact overlaps_eq wr.heap.size (w.heap.size + 1) pm pk r2 q2 r q W hr8 hq8 hr2 hq2 (yW.cell 0) (yW.cell 1) yW.lt (pW.cell 0) (pW.cell 1) pW.lt _ rfl)
      clear oT oL p3 HB HX
      go_wp2_with fail
      refine (containsP_any A T.length c _ wr.heap.size (w.heap.size + 1) T _ o5.rd (Nat.le_refl _) (fun t => nearB pm pk ⟨(r : Int), (q : Int)⟩ t) hp d HD.out).mono ?_
      rintro e w6 ⟨rfl, hb6⟩
      have o6 := o5.all hb6
      have oL6 := oL5.all hb6
      have p6 := p5.all hb6
      have y6 := y5.all hb6
      have HB6 := Lib.hid (HB5.out.trans (hb6.mono HB5.out.size))
      have hz6 : w3.heap.size ≤ w6.heap.size := Nat.le_trans hzr (Nat.le_trans (by simp) hb6.size)
      have hzw : w.heap.size ≤ w6.heap.size := HB6.out.size
      clear hb6 o5 oL5 p5 y5 HB5 hp e0 e1
      cases d with
      | true =>
        have HN := Lib.hid (show T = takenL pm pk [] (L.take (i + 1)) by
          rw [hstep.out, ← HT.out, hfree.out]; rfl)
        clear HT hstep hfree y6
        go_wp2
        go_roundw
        case rel => exact ⟨i + 1, A, c, T, by omega, by go_num, rfl, HN, o6, oL6, p6, HB6, hz6, hLb⟩
        case measure => simp [intOf]; omega
      | false =>
        have HN := Lib.hid (show T ++ [⟨(r : Int), (q : Int)⟩] = takenL pm pk [] (L.take (i + 1)) by
          rw [hstep.out, ← HT.out, hfree.out]; rfl)
        clear HT hstep hfree
        have y60 := y6.cell 0
        have y61 := y6.cell 1
        have hr := RdF.lit (F := pairF) (w := w6) (cs := #[.int .i64 (r : Int), .int .i64 (q : Int)]) (a := ⟨(r : Int), (q : Int)⟩) rfl (ok_small (by omega) (by omega))
        have oA := o6.alloc (.cells #[.int .i64 (r : Int), .int .i64 (q : Int)] pairF.t)
        have oLA := oL6.alloc (.cells #[.int .i64 (r : Int), .int .i64 (q : Int)] pairF.t)
        have pA := p6.alloc (.cells #[.int .i64 (r : Int), .int .i64 (q : Int)] pairF.t)
        have HBA := Lib.hid (HB6.out.alloc hzw (.cells #[.int .i64 (r : Int), .int .i64 (q : Int)] pairF.t))
        have hz10 : w3.heap.size ≤ (w6.alloc (.cells #[.int .i64 (r : Int), .int .i64 (q : Int)] pairF.t)).heap.size := by simp; omega
        clear o6 oL6 p6 HB6 y6
        go_wp2_with (refine wpList_appendF pairF rfl _ (.tmp 31) (.tmp 33) 39 (.agg #[.int .i64 0, .int .i64 0]) 16 rfl Try.underlying39 info_Pair rfl (by decide) (by decide) w3.heap.size _ T [⟨(r : Int), (q : Int)⟩] w6.heap.size 0 1 1 (w6.heap.size + 1) rfl rfl oA hr (by simp; omega) hz10 ?_)
        intro A7 c7 w7 o7 hg7
        have oL7 := oLA.mark hg7 (fun k k' hk hk' e => by have h1 := (oA.bd k hk).1; have h2 := hLb k' hk'; omega)
        have p7 := pA.mark hg7 (row_ne oA.1 pA (by decide))
        have HB7 := Lib.hid (HBA.out.grown hg7 (by simp; omega) (fun k hk => Nat.le_trans hz4 (oA.bd k hk).1))
        have hz7 : w3.heap.size ≤ w7.heap.size := Nat.le_trans hz10 hg7.size
        clear oA oLA pA HBA hr hg7 y60 y61
        go_wp2
        go_roundw
        case rel => exact ⟨i + 1, A7, c7, T ++ [⟨(r : Int), (q : Int)⟩], by omega, by go_num, by rw [List.length_append]; rfl, HN, by rw [List.length_append]; exact o7, oL7, p7, HB7, hz7, hLb⟩
        case measure => simp [intOf]; omega
    · obtain rfl : i = L.length := by omega
      have HE := Lib.hid (show (apartN m kk xs pm pk ys) = (T.length : Int) by
        rw [HVV.out, HT.out, List.take_of_length_le (Nat.le_refl _)])
      clear HVV HT
      go_wp2
      go_ret2
      exact ⟨ret_ib HE.out.symm HOK.out.symm, HB.out⟩
end Go.Proofs.Ytehhidpmbbabeaa
