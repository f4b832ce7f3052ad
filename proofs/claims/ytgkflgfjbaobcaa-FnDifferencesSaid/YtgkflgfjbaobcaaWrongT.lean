/- The walks of the model's DifferencesAt, WrongKnots, WrongRows. No condition. -/
import Derived.Test.YtgkflgfjbaobcaaWrongS
namespace Go.Proofs.Ytgkflgfjbaobcaa
open Go.RowKit

/-- Both charts are good: their boxes. -/
theorem c2_of {W H : Int} {A : Option Addr} {n c B : Nat} {xs : List Int} {W' H' : Int} {A' : Option Addr} {n' c' B' : Nat} {ys : List Int} {d a : Int} {w : World} (hok : okX W H xs W' H' ys d a = true) (h : Rd w B A n c xs) (hB : B ≤ w.heap.size) (h' : Rd w B' A' n' c' ys) (hB' : B' ≤ w.heap.size) :
    ∃ m k b off pm pk b' off' : Nat, W = m ∧ H = k ∧ A = some ⟨b, off, none⟩ ∧ n = xs.length ∧ W' = pm ∧ H' = pk ∧ A' = some ⟨b', off', none⟩ ∧ n' = ys.length ∧ 1 ≤ m ∧ m ≤ 8 ∧ k ≤ 8 ∧ xs.length ≤ 64 ∧ pm ≤ 8 ∧ pk ≤ 8 ∧ Hid (xs.length = m * k) ∧ Hid (ys.length = pm * pk) ∧
      C2 w m k b off c xs pm pk b' off' c' ys ((w.alloc (chB m k b off xs.length c)).alloc (chB pm pk b' off' ys.length c')) := by
  obtain ⟨hg, hg', _⟩ := okX_of hok
  obtain ⟨m, k, b, off, rfl, rfl, rfl, rfl, hm, hm8, _, hk8, hl, h64, _, _⟩ := good_openT hg h
  obtain ⟨pm, pk, b', off', rfl, rfl, rfl, rfl, hp1, hp8, hq1, hq8, hl', _, _, _⟩ := good_openT hg' h'
  exact ⟨m, k, b, off, pm, pk, b', off', rfl, rfl, rfl, rfl, rfl, rfl, rfl, rfl, hm, hm8, hk8, h64, hp8, hq8, hl, hl', C2.start (h.more hB) (h'.more hB')⟩
theorem tk_nil (W H : Int) (xs : List Int) (W' H' : Int) (ys : List Int) (d a : Int) (h : okX W H xs W' H' ys d a = false) : knX W H xs W' H' ys d a = [] := by unfold knX; rw [(wrX_no h).1]; rfl
set_option maxRecDepth 100000 in
set_option maxHeartbeats 8000000 in
theorem specDifferencesAt_any (W H : Int) (A : Option Addr) (n c B : Nat) (xs : List Int) (W' H' : Int) (A' : Option Addr) (n' c' B' : Nat) (ys : List Int) (d a : Int) (w : World) (h : Rd w B A n c xs) (hB : B ≤ w.heap.size) (h' : Rd w B' A' n' c' ys) (hB' : B' ≤ w.heap.size) :
    Calls Try.prog 7 #[chartV W H (.slice A n c), chartV W' H' (.slice A' n' c'), .int .i64 d, .int .i64 a] w (Out w (.tuple #[.int .i64 ((wrX W H xs W' H' ys d a).length : Nat), .int .i64 (ovX W H xs W' H' ys d a : Nat), .bool (okX W H xs W' H' ys d a)])) := by
  have HB := Lib.hid (((Below.refl w.heap.size w).alloc (Nat.le_refl _) (.cells #[.int .i64 W, .int .i64 H, .slice A n c] 26)).alloc (by simp) (.cells #[.int .i64 W', .int .i64 H', .slice A' n' c'] 26))
  have h1 := (h.alloc hB (.cells #[.int .i64 W, .int .i64 H, .slice A n c] 26)).alloc (by simp; omega) (.cells #[.int .i64 W', .int .i64 H', .slice A' n' c'] 26)
  have h2 := (h'.alloc hB' (.cells #[.int .i64 W, .int .i64 H, .slice A n c] 26)).alloc (by simp; omega) (.cells #[.int .i64 W', .int .i64 H', .slice A' n' c'] 26)
  cases hok : okX W H xs W' H' ys d a with
  | false =>
    have HX := Lib.hid (wrX_no hok)
    clear h h'
    go_enter Try.func7, Try.ntmps7
    go_wp2_with fail
    refine (l13Shift_any W H A n c B xs W' H' A' n' c' B' ys d a _ h1 (by simp; omega) h2 (by simp; omega)).mono ?_
    rintro e w1 ⟨rfl, hb⟩
    rw [hok]
    go_wp2
    go_ret3
    rw [HX.out.1, HX.out.2]
    exact ⟨rfl, HB.out.trans (hb.mono (by simp; omega))⟩
  | true =>
    clear HB h1 h2
    obtain ⟨m, k, b, off, pm, pk, b', off', rfl, rfl, rfl, rfl, rfl, rfl, rfl, rfl, hm, hm8, hk8, h64, hp8, hq8, hl, hl', x0⟩ := c2_of hok h hB h' hB'
    have HX := Lib.hid (wrX_yes hok)
    have hg' := (okX_of hok).2.1
    have hs := (okX_of hok).2.2
    clear h h' hB hB'
    go_enter Try.func7, Try.ntmps7
    go_upto_region 1 with fail
    generalize (w.alloc (chB m k b off xs.length c)).alloc (chB pm pk b' off' ys.length c') = w0 at *
    have e0 := x0.a0
    have e1 := x0.a1
    have e2 := x0.a2
    have d0 := x0.d0
    have d1 := x0.d1
    have d2 := x0.d2
    have hz0 := x0.sz
    have hz00 : w.heap.size ≤ w0.heap.size := by omega
    go_wp2_with fail
    refine (l13Shift_any m k _ _ c w.heap.size xs pm pk _ _ c' w.heap.size ys d a w0 x0.r hz00 x0.s hz00).mono ?_
    rintro e w1 ⟨rfl, hb⟩
    rw [hok]
    have x1 := x0.all hb
    clear e0 e1 e2 d0 d1 d2 hz0 hz00 x0 hb
    have e0 := x1.a0
    have e1 := x1.a1
    have e2 := x1.a2
    have d0 := x1.d0
    have d1 := x1.d1
    have d2 := x1.d2
    have hz0 := x1.sz
    have hz00 : w.heap.size ≤ w1.heap.size := by omega
    go_wp2_with fail
    refine (l13Wrong_any m k b off c pm pk b' off' c' xs ys d a w1 (x1.r.more hz00) (x1.s.more hz00) hg' hs hm hm8 hk8 h64 hp8 hq8 hl hl').mono ?_
    rintro e w2 ⟨A2, c2, rfl, own2, hb⟩
    have x2 := x1.all hb
    clear e0 e1 e2 d0 d1 d2 hz0 hz00 x1 hb
    go_wp2
    go_ret3
    rw [HX.out.1, HX.out.2]
    exact ⟨rfl, x2.bel⟩
set_option maxRecDepth 100000 in
set_option maxHeartbeats 8000000 in
theorem specWrongKnots_any (W H : Int) (A : Option Addr) (n c B : Nat) (xs : List Int) (W' H' : Int) (A' : Option Addr) (n' c' B' : Nat) (ys : List Int) (d a : Int) (w : World) (h : Rd w B A n c xs) (hB : B ≤ w.heap.size) (h' : Rd w B' A' n' c' ys) (hB' : B' ≤ w.heap.size) :
    Calls Try.prog 9 #[chartV W H (.slice A n c), chartV W' H' (.slice A' n' c'), .int .i64 d, .int .i64 a] w (OutF pairF w (knX W H xs W' H' ys d a) (okX W H xs W' H' ys d a)) := by
  have HB := Lib.hid (((Below.refl w.heap.size w).alloc (Nat.le_refl _) (.cells #[.int .i64 W, .int .i64 H, .slice A n c] 26)).alloc (by simp) (.cells #[.int .i64 W', .int .i64 H', .slice A' n' c'] 26))
  have h1 := (h.alloc hB (.cells #[.int .i64 W, .int .i64 H, .slice A n c] 26)).alloc (by simp; omega) (.cells #[.int .i64 W', .int .i64 H', .slice A' n' c'] 26)
  have h2 := (h'.alloc hB' (.cells #[.int .i64 W, .int .i64 H, .slice A n c] 26)).alloc (by simp; omega) (.cells #[.int .i64 W', .int .i64 H', .slice A' n' c'] 26)
  cases hok : okX W H xs W' H' ys d a with
  | false =>
    have HX := Lib.hid (tk_nil W H xs W' H' ys d a hok)
    clear h h'
    go_enter Try.func9, Try.ntmps9
    go_wp2_with fail
    refine (l13Shift_any W H A n c B xs W' H' A' n' c' B' ys d a _ h1 (by simp; omega) h2 (by simp; omega)).mono ?_
    rintro e w1 ⟨rfl, hb⟩
    rw [hok]
    have hz1 : w.heap.size ≤ w1.heap.size := by have := hb.size; simp at this; omega
    have HB1 := Lib.hid (HB.out.trans (hb.mono (by simp; omega)))
    have oE := OwnF.empty pairF (w := w1) (lo := w.heap.size) hz1
    have HBE := Lib.hid (HB1.out.alloc hz1 (.cells #[] pairF.t))
    go_wp2
    go_ret2
    rw [HX.out]
    exact ⟨_, _, rfl, oE, HBE.out⟩
  | true =>
    clear HB h1 h2
    obtain ⟨m, k, b, off, pm, pk, b', off', rfl, rfl, rfl, rfl, rfl, rfl, rfl, rfl, hm, hm8, hk8, h64, hp8, hq8, hl, hl', x0⟩ := c2_of hok h hB h' hB'
    have HX := Lib.hid (show knX m k xs pm pk ys d a = (wrTo m pm pk xs ys d a xs.length).map (knotOf m) by unfold knX; rw [(wrX_yes hok).1]; rfl)
    have hg' := (okX_of hok).2.1
    have hs := (okX_of hok).2.2
    clear h h' hB hB'
    go_enter Try.func9, Try.ntmps9
    go_upto_region 1 with fail
    generalize (w.alloc (chB m k b off xs.length c)).alloc (chB pm pk b' off' ys.length c') = w0 at *
    have e0 := x0.a0
    have e1 := x0.a1
    have e2 := x0.a2
    have d0 := x0.d0
    have d1 := x0.d1
    have d2 := x0.d2
    have hz0 := x0.sz
    have hz00 : w.heap.size ≤ w0.heap.size := by omega
    go_wp2_with fail
    refine (l13Shift_any m k _ _ c w.heap.size xs pm pk _ _ c' w.heap.size ys d a w0 x0.r hz00 x0.s hz00).mono ?_
    rintro e w1 ⟨rfl, hb⟩
    rw [hok]
    have x1 := x0.all hb
    clear e0 e1 e2 d0 d1 d2 hz0 hz00 x0 hb
    have e0 := x1.a0
    have e1 := x1.a1
    have e2 := x1.a2
    have d0 := x1.d0
    have d1 := x1.d1
    have d2 := x1.d2
    have hz0 := x1.sz
    have hz00 : w.heap.size ≤ w1.heap.size := by omega
    go_wp2_with fail
    refine (l13Wrong_any m k b off c pm pk b' off' c' xs ys d a w1 (x1.r.more hz00) (x1.s.more hz00) hg' hs hm hm8 hk8 h64 hp8 hq8 hl hl').mono ?_
    rintro e w2 ⟨A2, c2, rfl, own2, hb⟩
    have x2 := x1.all hb
    have o2 := own2.mono hz00
    clear e0 e1 e2 d0 d1 d2 hz0 hz00 x1 hb own2
    go_wp2
    go_ret2
    rw [HX.out]
    exact ⟨A2, c2, by rw [List.length_map]; rfl, o2, x2.bel⟩
set_option maxRecDepth 100000 in
set_option maxHeartbeats 8000000 in
theorem specWrongRows_any (W H : Int) (A : Option Addr) (n c B : Nat) (xs : List Int) (W' H' : Int) (A' : Option Addr) (n' c' B' : Nat) (ys : List Int) (d a : Int) (w : World) (h : Rd w B A n c xs) (hB : B ≤ w.heap.size) (h' : Rd w B' A' n' c' ys) (hB' : B' ≤ w.heap.size) :
    Calls Try.prog 12 #[chartV W H (.slice A n c), chartV W' H' (.slice A' n' c'), .int .i64 d, .int .i64 a] w (OutInts w (rwX W H xs W' H' ys d a) (okX W H xs W' H' ys d a)) := by
  have HB := Lib.hid (((Below.refl w.heap.size w).alloc (Nat.le_refl _) (.cells #[.int .i64 W, .int .i64 H, .slice A n c] 26)).alloc (by simp) (.cells #[.int .i64 W', .int .i64 H', .slice A' n' c'] 26))
  have h1 := (h.alloc hB (.cells #[.int .i64 W, .int .i64 H, .slice A n c] 26)).alloc (by simp; omega) (.cells #[.int .i64 W', .int .i64 H', .slice A' n' c'] 26)
  have h2 := (h'.alloc hB' (.cells #[.int .i64 W, .int .i64 H, .slice A n c] 26)).alloc (by simp; omega) (.cells #[.int .i64 W', .int .i64 H', .slice A' n' c'] 26)
  cases hok : okX W H xs W' H' ys d a with
  | false =>
    have HX := Lib.hid (rwX_no hok)
    clear h h'
    go_enter Try.func12, Try.ntmps12
    go_wp2_with fail
    refine (l13Shift_any W H A n c B xs W' H' A' n' c' B' ys d a _ h1 (by simp; omega) h2 (by simp; omega)).mono ?_
    rintro e w1 ⟨rfl, hb⟩
    rw [hok]
    have hz1 : w.heap.size ≤ w1.heap.size := by have := hb.size; simp at this; omega
    have HB1 := Lib.hid (HB.out.trans (hb.mono (by simp; omega)))
    have oE := Own.empty (w := w1) (lo := w.heap.size) hz1
    have HBE := Lib.hid (HB1.out.alloc hz1 (.cells #[] 3))
    go_wp2
    go_ret2
    rw [HX.out]
    exact ⟨_, _, rfl, oE, HBE.out⟩
  | true =>
    clear HB h1 h2
    obtain ⟨m, k, b, off, pm, pk, b', off', rfl, rfl, rfl, rfl, rfl, rfl, rfl, rfl, hm, hm8, hk8, h64, hp8, hq8, hl, hl', x0⟩ := c2_of hok h hB h' hB'
    have HX := Lib.hid (show rwX m k xs pm pk ys d a = rowsOf m k (wrTo m pm pk xs ys d a xs.length) by unfold rwX; rw [if_pos hok, (wrX_yes hok).1]; rfl)
    have HIN := Lib.hid (show ∀ p, p ∈ wrTo m pm pk xs ys d a xs.length → p < 64 ∧ p / m < k from fun p hp => by
      have h1 := (wrTo_mem.1 hp).1
      exact ⟨by omega, Nat.div_lt_of_lt_mul (by rw [← hl.out]; exact h1)⟩)
    have hwl : (wrTo m pm pk xs ys d a xs.length).length ≤ 64 := Nat.le_trans wrTo_le (Nat.le_trans parTo_len h64)
    have hg' := (okX_of hok).2.1
    have hs := (okX_of hok).2.2
    have hk4 : k ≤ 4000 := by omega
    clear h h' hB hB'
    go_enter Try.func12, Try.ntmps12
    go_upto_region 1 with fail
    generalize (w.alloc (chB m k b off xs.length c)).alloc (chB pm pk b' off' ys.length c') = w0 at *
    have e0 := x0.a0
    have e1 := x0.a1
    have e2 := x0.a2
    have d0 := x0.d0
    have d1 := x0.d1
    have d2 := x0.d2
    have hz0 := x0.sz
    have hz00 : w.heap.size ≤ w0.heap.size := by omega
    go_wp2_with fail
    refine (l13Shift_any m k _ _ c w.heap.size xs pm pk _ _ c' w.heap.size ys d a w0 x0.r hz00 x0.s hz00).mono ?_
    rintro e w1 ⟨rfl, hb⟩
    rw [hok]
    have x1 := x0.all hb
    clear e0 e1 e2 d0 d1 d2 hz0 hz00 x0 hb
    have e1 := x1.a1
    have hz1 := x1.sz
    have oM : Own (w1.alloc (.cells (madeCells #[.int .i64 0] k) 3)) w1.heap.size (.slice (some ⟨w1.heap.size, 0, none⟩) k k) (List.replicate k 0) := own_made rfl (Nat.le_refl _) hk4
    have xM := x1.alloc (.cells (madeCells #[.int .i64 0] k) 3)
    have hmk := mkI w1 k hk4
    rw [← rowsOf_nil m k] at oM
    go_upto_region 4 with fail
    clear x1 hmk e1
    generalize w1.alloc (.cells (madeCells #[.int .i64 0] k) 3) = W2 at *
    generalize w1.heap.size = P at *
    have e0 := xM.a0
    have e1 := xM.a1
    have e2 := xM.a2
    have d0 := xM.d0
    have d1 := xM.d1
    have d2 := xM.d2
    have hz0 := xM.sz
    have hz00 : w.heap.size ≤ W2.heap.size := by omega
    have hPw : P < W2.heap.size := (oM.bd P rfl).2
    go_wp2_with fail
    refine (l13Wrong_any m k b off c pm pk b' off' c' xs ys d a W2 (xM.r.more hz00) (xM.s.more hz00) hg' hs hm hm8 hk8 h64 hp8 hq8 hl hl').mono ?_
    rintro e w3 ⟨A2, c2, rfl, own2, hb⟩
    have x3 := xM.all hb
    have o3 := oM.all hb
    clear e0 e1 e2 d0 d1 d2 hz0 hz00 xM oM hb
    obtain ⟨L, HL⟩ : ∃ L, Hid (wrTo m pm pk xs ys d a xs.length = L) := ⟨_, rfl⟩
    rw [show wrTo m pm pk xs ys d a xs.length = L from HL.out] at own2 HIN hwl HX ⊢
    have HML : Hid (∀ j p, L[j]? = some p → (L.map (knotOf m))[j]? = some (knotOf m p)) := Lib.hid (fun j p hp => by rw [List.getElem?_map, hp]; rfl)
    have HMN := Lib.hid (show (L.map (knotOf m)).length = L.length by simp)
    rw [HMN.out] at own2 ⊢
    obtain ⟨KL, HKL⟩ : ∃ KL, Hid (L.map (knotOf m) = KL) := ⟨_, rfl⟩
    rw [show L.map (knotOf m) = KL from HKL.out] at own2 HML HMN
    go_wp2
    go_loopw [13] (fun s13 wr => ∃ (j : Nat), j ≤ L.length ∧ s13 = .int .i64 j ∧ Own wr P (.slice (some ⟨P, 0, none⟩) k k) (rowsOf m k (L.take j)) ∧ OwnF pairF wr W2.heap.size (.slice A2 L.length c2) KL ∧ Hid (Below w.heap.size w wr)) (fun s13 _ => L.length - (intOf s13).toNat)
    case atStart => exact ⟨0, Nat.zero_le _, rfl, by rw [List.take_zero]; exact o3, own2, Lib.hid x3.bel⟩
    case round =>
      clear o3 own2 x3
      obtain ⟨j, hj, rfl, ho, hpr, HBw⟩ := hrel
      by_cases hlt : j < L.length
      · have hp : L[j]? = some (L[j]'hlt) := List.getElem?_eq_getElem hlt
        obtain ⟨p, hpe⟩ : ∃ p, L[j]'hlt = p := ⟨_, rfl⟩
        rw [hpe] at hp
        obtain ⟨hp64, hpk⟩ := HIN.out p (List.mem_of_getElem? hp)
        obtain ⟨x, hx⟩ : ∃ x : Nat, (rowsOf m k (L.take j)).getD (p / m) 0 = (x : Int) := ⟨_, rowsOf_get hpk⟩
        have hxl : x ≤ 64 := by
          rw [rowsOf_get hpk] at hx
          have h2 := List.countP_le_length (l := L.take j) (p := fun q => decide (q / m = p / m))
          have h3 := List.length_take_le j L
          omega
        have HS := Lib.hid (rowsOf_step hpk hx)
        rw [show L.take j ++ [p] = L.take (j + 1) by rw [List.take_succ_eq_append_getElem hlt, hpe]] at HS
        obtain ⟨u, v, hu0, _, hu, _, _, _, _, _, _, hkp⟩ := knot_facts (p := p) hm hm8 hp64
        rw [hu0.out] at HS hx hpk
        obtain ⟨g, of, s, rfl, _, _, hs9, f0, f1⟩ := Pair_at hpr.rd hlt
        obtain rfl : s = ⟨(u : Int), (v : Int)⟩ := by
          have h5 := HML.out j p hp
          rw [hs9.out] at h5
          injection h5 with h5
          rw [h5, hkp.out]
        have g1 := own_at ho (j := u) (by rw [rowsOf_len]; exact hpk) hx
        have hc1 := hpr.rd.cap
        have hgP : Hid (∀ q, (Value.slice (some ⟨g, of, none⟩) L.length c2).ownBlock = some q → W2.heap.size ≤ q) := Lib.hid (fun q hq => (hpr.bd q hq).1)
        obtain ⟨hf, H2, H3⟩ := own_put ho u ((x : Int) + 1) ⟨by omega, by omega⟩
        have hp2 := hpr.kept H3 (.inr (fun e => by have := hgP.out P e; omega))
        have hbN := Lib.hid (HBw.out.setCell (p := ⟨P, u, none⟩) (by show w.heap.size ≤ P; omega) (.int .i64 ((x : Int) + 1)))
        rw [HS.out] at H2
        clear hp hpe hx hu0 HS hs9 f1 hpr
        go_wp2
        go_roundw
        case rel => exact ⟨j + 1, hlt, by go_num, H2, hp2, hbN⟩
        case measure => simp [intOf]; omega
      · have HF := Lib.hid (show rwX m k xs pm pk ys d a = rowsOf m k (L.take j) by rw [HX.out, List.take_of_length_le (by omega)])
        have HLL := Lib.hid (rowsOf_len m k (L.take j))
        go_wp2
        go_ret2
        rw [HF.out]
        refine ⟨some ⟨P, 0, none⟩, k, by rw [HLL.out]; rfl, ?_, HBw.out⟩
        rw [HLL.out]
        exact ho.mono (by omega)
end Go.Proofs.Ytgkflgfjbaobcaa
