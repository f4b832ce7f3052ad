/- The walks of wrongPlaces and of the program's DifferencesAt. No condition. -/
import Derived.Test.YtgkflgfjbaobcaaPartners
namespace Go.Proofs.Ytgkflgfjbaobcaa
open Go.RowKit

/-- What a call leaves that answers a slice of places of its own, a number and a yes or no. -/
def OutWr (w : World) (L : List Nat) (n : Nat) (b : Bool) (e : Ending) (w' : World) : Prop :=
  ∃ A c, e = .returned (.tuple #[.slice A L.length c, .int .i64 (n : Int), .bool b]) ∧ Own w' w.heap.size (.slice A L.length c) (upN L) ∧ Below w.heap.size w w'
set_option maxRecDepth 100000 in
set_option maxHeartbeats 8000000 in
theorem wrongPlaces_yes (m k b off c pm pk b' off' c' : Nat) (xs ys : List Int) (d a : Int) (w : World) (R : Rd w w.heap.size (some ⟨b, off, none⟩) xs.length c xs) (S : Rd w w.heap.size (some ⟨b', off', none⟩) ys.length c' ys)
    (hg : goodB m k xs = true) (hg' : goodB pm pk ys = true) (hs : shB d a = true) (hm : 1 ≤ m) (hm8 : m ≤ 8) (h64 : xs.length ≤ 64) (hp1 : 1 ≤ pm) (hp8 : pm ≤ 8) (hq1 : 1 ≤ pk) (hq8 : pk ≤ 8) (hl' : Hid (ys.length = pm * pk)) :
    Calls Try.prog 20 #[chartV m k (.slice (some ⟨b, off, none⟩) xs.length c), chartV pm pk (.slice (some ⟨b', off', none⟩) ys.length c'), .int .i64 d, .int .i64 a] w (OutWr w (wrTo m pm pk xs ys d a xs.length) (parTo m pm pk d a xs.length).length true) := by
  have x0 := C2.start (m := m) (k := k) (pm := pm) (pk := pk) R S
  clear R S
  go_enter Try.func20, Try.ntmps20
  go_upto_region 1 with fail
  generalize (w.alloc (chB m k b off xs.length c)).alloc (chB pm pk b' off' ys.length c') = w0 at *
  have e0 := x0.a0
  have e1 := x0.a1
  have e2 := x0.a2
  have hz0 := x0.sz
  have hz00 : w.heap.size ≤ w0.heap.size := by omega
  go_wp2_with fail
  refine (implIsChart_any m k _ _ c w.heap.size xs w0 x0.r hz00).mono ?_
  rintro e w1 ⟨rfl, hb⟩
  rw [hg]
  have x1 := x0.all hb
  clear e0 e1 e2 hz0 x0 hb hz00
  have e0 := x1.d0
  have e1 := x1.d1
  have e2 := x1.d2
  have hz0 := x1.sz
  have hz00 : w.heap.size ≤ w1.heap.size := by omega
  go_wp2_with fail
  refine (implIsChart_any pm pk _ _ c' w.heap.size ys w1 x1.s hz00).mono ?_
  rintro e w2 ⟨rfl, hb⟩
  rw [hg']
  have x2 := x1.all hb
  clear e0 e1 e2 hz0 x1 hb hz00
  go_wp2_with fail
  refine (isShift_any d a w2).mono ?_
  rintro e w3 ⟨rfl, rfl⟩
  rw [hs]
  have e0 := x2.a0
  have e1 := x2.a1
  have e2 := x2.a2
  have d0 := x2.d0
  have d1 := x2.d1
  have d2 := x2.d2
  have hz0 := x2.sz
  have hz00 : w.heap.size ≤ w2.heap.size := by omega
  go_wp2_with fail
  refine (partnersAt_any m k b off c pm pk b' off' c' xs ys d a w2 (x2.r.more hz00) (x2.s.more hz00) hm hm8 h64 hp1 hp8 hq1 hq8 hs).mono ?_
  rintro e w3 ⟨A1, c1, rfl, own1, hb3⟩
  have x3 := x2.all hb3
  have hz3 : w.heap.size + 2 ≤ w3.heap.size := x3.sz
  clear e0 e1 e2 d0 d1 d2 hz0 hz00 x2 hb3
  have HPL := Lib.hid (pairsTo_len (m := m) (pm := pm) (pk := pk) (d := d) (a := a) (i := xs.length))
  have HWA := Lib.hid (fun j => wrIn_all (m := m) (pm := pm) (pk := pk) (d := d) (a := a) (i := xs.length) (xs := xs) (ys := ys) (j := j))
  have HAT := Lib.hid (fun j s => pairsTo_at (m := m) (pm := pm) (pk := pk) (d := d) (a := a) (i := xs.length) (j := j) (s := s))
  have hL64 : (pairsTo m pm pk d a xs.length).length ≤ 64 := by rw [HPL.out]; exact Nat.le_trans parTo_len h64
  obtain ⟨L, HL⟩ : ∃ L, Hid (pairsTo m pm pk d a xs.length = L) := ⟨_, rfl⟩
  rw [show pairsTo m pm pk d a xs.length = L from HL.out] at own1 HPL HAT hL64 ⊢
  go_wp2
  go_loopw [12, 37] (fun s12 s37 wr => ∃ (j : Nat) (A : Option Addr) (c9 : Nat) (K : List Nat), j ≤ L.length ∧ s37 = .int .i64 j ∧ s12 = .slice A K.length c9 ∧ Hid (K = wrIn m pm pk xs ys d a xs.length j) ∧ Own wr w3.heap.size (.slice A K.length c9) (upN K) ∧ w3.heap.size ≤ wr.heap.size ∧ Hid (Below w3.heap.size w3 wr) ∧
      C2 w m k b off c xs pm pk b' off' c' ys wr) (fun _ s37 _ => L.length - (intOf s37).toNat)
  case atStart => exact ⟨0, none, 0, [], Nat.zero_le _, rfl, rfl, Lib.hid wrIn_zero.symm, Own.nil _ _, Nat.le_refl _, Lib.hid (Below.refl _ _), x3⟩
  case round =>
    clear x3
    obtain ⟨j, A, c9, K, hj, rfl, rfl, HK, ho, hzw, HB, x4⟩ := hrel
    by_cases hlt : j < L.length
    · have hR := (own1.all HB.out).rd
      obtain ⟨g, of, s, rfl, _, _, hs9, f0, f1⟩ := Par_at hR hlt
      obtain ⟨p, hp, rfl, hpl, hhp⟩ := HAT.out j s hs9.out
      have hptn := ptn_eq hhp
      have hql : ptn m pm d a p < ys.length := by rw [hl'.out]; exact hptn.2.1
      obtain ⟨t, ht⟩ : ∃ t, difB m pm xs ys d a p = t := ⟨_, rfl⟩
      have HT := Lib.hid (show (xs.getD p 0 != ys.getD (ptn m pm d a p) 0) = t from ht)
      have HY := Lib.hid (fun h : t = true => wrIn_yes (xs := xs) (ys := ys) hp (ht.trans h))
      have HN := Lib.hid (fun h : t = false => wrIn_no (xs := xs) (ys := ys) hp (ht.trans h))
      have hKl := Lib.hid (show K.length ≤ 64 by rw [HK.out]; exact Nat.le_trans wrIn_len (by omega))
      have hc1 := hR.cap
      clear hs9 hR hptn ht hp
      generalize ptn m pm d a p = q at *
      go_upto_region 8 with fail
      have z1 := Blk.new wr #[.int .i64 (p : Int), .int .i64 (q : Int)] 69
      have x5 := x4.alloc (.cells #[.int .i64 (p : Int), .int .i64 (q : Int)] 69)
      have o5 := ho.alloc (.cells #[.int .i64 (p : Int), .int .i64 (q : Int)] 69)
      have HB5 := Lib.hid (HB.out.alloc hzw (.cells #[.int .i64 (p : Int), .int .i64 (q : Int)] 69))
      have hz5 : w3.heap.size ≤ (wr.alloc (.cells #[.int .i64 (p : Int), .int .i64 (q : Int)] 69)).heap.size := by simp; omega
      clear x4 ho HB f0 f1
      generalize wr.alloc (.cells #[.int .i64 (p : Int), .int .i64 (q : Int)] 69) = W1 at *
      generalize wr.heap.size = P at *
      have f0 := z1.cell 0
      have f1 := z1.cell 1
      have e0 := x5.a0
      have e1 := x5.a1
      have e2 := x5.a2
      have d0 := x5.d0
      have d1 := x5.d1
      have d2 := x5.d2
      have hz00 : w.heap.size ≤ W1.heap.size := by omega
      go_wp2_with fail
      refine (isDifference_any m k b off c pm pk b' off' c' xs ys p q _ _ W1 (x5.r.more hz00) (x5.s.more hz00) hpl hql rfl rfl).mono ?_
      rintro e w6 ⟨rfl, hb6⟩
      rw [HT.out]
      have x6 := x5.all hb6
      have z6 := z1.all hb6
      have o6 := o5.all hb6
      have HB6 := Lib.hid (HB5.out.trans (hb6.mono hz5))
      have hz6 := Nat.le_trans hz5 hb6.size
      clear x5 z1 o5 HB5 hz5 f0 f1 e0 e1 e2 d0 d1 d2 hz00 hb6
      have f0 := z6.cell 0
      cases t with
      | true =>
        have HLN := Lib.hid (show K ++ [p] = wrIn m pm pk xs ys d a xs.length (j + 1) by rw [HY.out rfl, HK.out])
        have hl30 : K.length ≤ 1073741824 := by have := hKl.out; omega
        have hI : I64 (p : Int) := ⟨by omega, by omega⟩
        have hbd := o6.bd
        clear HY HN HK
        go_wp2_with (at_builtin; refine wpList_append_one_at w6 rfl (.tmp 45) (.tmp 48) 24 rfl Try.underlying24 info_int w3.heap.size K.length _ (upN K) (p : Int) (upN_len K) rfl rfl o6 hl30 hI hz6 ?_)
        intro A9 c8 w9 ho9 hg9 _
        have x9 := x6.mark hg9 (fun q hq => by have := (hbd q hq).1; omega)
        have HB9 := Lib.hid (HB6.out.grown hg9 hz6 (fun q hq => (hbd q hq).1))
        have hz9 := Nat.le_trans hz6 hg9.size
        rw [← upN_app] at ho9
        clear hg9 hbd x6 o6 HB6 hz6 z6 f0
        go_wp2
        go_roundw
        case rel => exact ⟨j + 1, A9, c8, K ++ [p], hlt, by go_num, by rw [List.length_append]; rfl, HLN, by rw [List.length_append]; exact ho9, hz9, HB9, x9⟩
        case measure => simp [intOf]; omega
      | false =>
        have HLN := Lib.hid (show K = wrIn m pm pk xs ys d a xs.length (j + 1) by rw [HN.out rfl]; exact HK.out)
        clear HY HN HK
        go_wp2
        go_roundw
        case rel => exact ⟨j + 1, A, c9, K, hlt, by go_num, rfl, HLN, o6, hz6, HB6, x6⟩
        case measure => simp [intOf]; omega
    · have HF := Lib.hid (show K = wrTo m pm pk xs ys d a xs.length by rw [HK.out, HWA.out j (by rw [← HPL.out]; omega)])
      have HPS := Lib.hid HPL.out.symm
      go_wp2
      go_ret3
      rw [HPS.out, ← HF.out]
      exact ⟨A, c9, rfl, ho.mono (by omega), x4.bel⟩
set_option maxRecDepth 100000 in
set_option maxHeartbeats 4000000 in
theorem wrongPlaces_any (W H : Int) (A : Option Addr) (n c B : Nat) (xs : List Int) (W' H' : Int) (A' : Option Addr) (n' c' B' : Nat) (ys : List Int) (d a : Int) (w : World) (h : Rd w B A n c xs) (hB : B ≤ w.heap.size) (h' : Rd w B' A' n' c' ys) (hB' : B' ≤ w.heap.size) :
    Calls Try.prog 20 #[chartV W H (.slice A n c), chartV W' H' (.slice A' n' c'), .int .i64 d, .int .i64 a] w (OutWr w (wrX W H xs W' H' ys d a) (ovX W H xs W' H' ys d a) (okX W H xs W' H' ys d a)) := by
  have HB := Lib.hid (((Below.refl w.heap.size w).alloc (Nat.le_refl _) (.cells #[.int .i64 W, .int .i64 H, .slice A n c] 26)).alloc (by simp) (.cells #[.int .i64 W', .int .i64 H', .slice A' n' c'] 26))
  have h1 := (h.alloc hB (.cells #[.int .i64 W, .int .i64 H, .slice A n c] 26)).alloc (by simp; omega) (.cells #[.int .i64 W', .int .i64 H', .slice A' n' c'] 26)
  have h2 := (h'.alloc hB' (.cells #[.int .i64 W, .int .i64 H, .slice A n c] 26)).alloc (by simp; omega) (.cells #[.int .i64 W', .int .i64 H', .slice A' n' c'] 26)
  have y0 := (Blk.new (w.alloc (.cells #[.int .i64 W, .int .i64 H, .slice A n c] 26)) #[.int .i64 W', .int .i64 H', .slice A' n' c'] 26).at_ (q := w.heap.size + 1) (by simp)
  have hzz : w.heap.size + 2 ≤ ((w.alloc (.cells #[.int .i64 W, .int .i64 H, .slice A n c] 26)).alloc (.cells #[.int .i64 W', .int .i64 H', .slice A' n' c'] 26)).heap.size := by simp
  cases hg : goodB W H xs with
  | false =>
    have HO := Lib.hid (okX_no1 (W' := W') (H' := H') (ys := ys) (d := d) (a := a) hg)
    have HX := Lib.hid (wrX_no HO.out)
    clear h h'
    go_enter Try.func20, Try.ntmps20
    go_wp2_with fail
    refine (implIsChart_any W H A n c B xs _ h1 (by simp; omega)).mono ?_
    rintro e w1 ⟨rfl, hb⟩
    rw [hg]
    go_wp2
    go_ret3
    rw [HX.out.1, HX.out.2, HO.out]
    exact ⟨none, 0, rfl, Own.nil _ _, HB.out.trans (hb.mono (by omega))⟩
  | true =>
    cases hg' : goodB W' H' ys with
    | false =>
      have HO := Lib.hid (okX_no2 (W := W) (H := H) (xs := xs) (d := d) (a := a) hg')
      have HX := Lib.hid (wrX_no HO.out)
      clear h h'
      go_enter Try.func20, Try.ntmps20
      go_wp2_with fail
      refine (implIsChart_any W H A n c B xs _ h1 (by simp; omega)).mono ?_
      rintro e w1 ⟨rfl, hb⟩
      rw [hg]
      have y1 := y0.all hb
      have e0 := y1.cell 0
      have e1 := y1.cell 1
      have e2 := y1.cell 2
      have hz1 := Nat.le_trans hzz hb.size
      have h3 := h2.all hb (by simp; omega)
      replace HB := Lib.hid (HB.out.trans (hb.mono (by omega)))
      clear hb h1 h2 y0
      go_wp2_with fail
      refine (implIsChart_any W' H' A' n' c' B' ys w1 h3 (by omega)).mono ?_
      rintro e w2 ⟨rfl, hb⟩
      rw [hg']
      go_wp2
      go_ret3
      rw [HX.out.1, HX.out.2, HO.out]
      exact ⟨none, 0, rfl, Own.nil _ _, HB.out.trans (hb.mono (by omega))⟩
    | true =>
      cases hs : shB d a with
      | false =>
        have HO := Lib.hid (okX_no3 (W := W) (H := H) (xs := xs) (W' := W') (H' := H') (ys := ys) hs)
        have HX := Lib.hid (wrX_no HO.out)
        clear h h'
        go_enter Try.func20, Try.ntmps20
        go_wp2_with fail
        refine (implIsChart_any W H A n c B xs _ h1 (by simp; omega)).mono ?_
        rintro e w1 ⟨rfl, hb⟩
        rw [hg]
        have y1 := y0.all hb
        have e0 := y1.cell 0
        have e1 := y1.cell 1
        have e2 := y1.cell 2
        have hz1 := Nat.le_trans hzz hb.size
        have h3 := h2.all hb (by simp; omega)
        replace HB := Lib.hid (HB.out.trans (hb.mono (by omega)))
        clear hb h1 h2 y0
        go_wp2_with fail
        refine (implIsChart_any W' H' A' n' c' B' ys w1 h3 (by omega)).mono ?_
        rintro e w2 ⟨rfl, hb⟩
        rw [hg']
        go_wp2_with fail
        refine (isShift_any d a w2).mono ?_
        rintro e w3 ⟨rfl, rfl⟩
        rw [hs]
        go_wp2
        go_ret3
        rw [HX.out.1, HX.out.2, HO.out]
        exact ⟨none, 0, rfl, Own.nil _ _, HB.out.trans (hb.mono (by omega))⟩
      | true =>
        obtain ⟨m, k, b, off, rfl, rfl, rfl, rfl, hm, hm8, _, _, _, h64, _, _⟩ := good_openT hg h
        obtain ⟨pm, pk, b', off', rfl, rfl, rfl, rfl, hp1, hp8, hq1, hq8, hl', _, _, _⟩ := good_openT hg' h'
        rw [(wrX_yes (okX_yes hg hg' hs)).1, (wrX_yes (okX_yes hg hg' hs)).2, okX_yes hg hg' hs]
        exact wrongPlaces_yes m k b off c pm pk b' off' c' xs ys d a w (h.more hB) (h'.more hB') hg hg' hs hm hm8 h64 hp1 hp8 hq1 hq8 hl'
set_option maxRecDepth 100000 in
set_option maxHeartbeats 4000000 in
theorem implDifferencesAt_any (W H : Int) (A : Option Addr) (n c B : Nat) (xs : List Int) (W' H' : Int) (A' : Option Addr) (n' c' B' : Nat) (ys : List Int) (d a : Int) (w : World) (h : Rd w B A n c xs) (hB : B ≤ w.heap.size) (h' : Rd w B' A' n' c' ys) (hB' : B' ≤ w.heap.size) :
    Calls Try.prog 6 #[chartV W H (.slice A n c), chartV W' H' (.slice A' n' c'), .int .i64 d, .int .i64 a] w (Out w (.tuple #[.int .i64 ((wrX W H xs W' H' ys d a).length : Nat), .int .i64 (ovX W H xs W' H' ys d a : Nat), .bool (okX W H xs W' H' ys d a)])) := by
  have HB := Lib.hid (((Below.refl w.heap.size w).alloc (Nat.le_refl _) (.cells #[.int .i64 W, .int .i64 H, .slice A n c] 26)).alloc (by simp) (.cells #[.int .i64 W', .int .i64 H', .slice A' n' c'] 26))
  have h1 := (h.alloc hB (.cells #[.int .i64 W, .int .i64 H, .slice A n c] 26)).alloc (by simp; omega) (.cells #[.int .i64 W', .int .i64 H', .slice A' n' c'] 26)
  have h2 := (h'.alloc hB' (.cells #[.int .i64 W, .int .i64 H, .slice A n c] 26)).alloc (by simp; omega) (.cells #[.int .i64 W', .int .i64 H', .slice A' n' c'] 26)
  clear h h'
  go_enter Try.func6, Try.ntmps6
  go_wp2_with fail
  refine (wrongPlaces_any W H A n c B xs W' H' A' n' c' B' ys d a _ h1 (by simp; omega) h2 (by simp; omega)).mono ?_
  rintro e w1 ⟨A1, c1, rfl, own1, hb⟩
  go_wp2
  go_ret3
  exact ⟨rfl, HB.out.trans (hb.mono (by simp; omega))⟩
end Go.Proofs.Ytgkflgfjbaobcaa
