/- The walk of the program's AreaSizes. No condition. -/
import Derived.Test.YtgahompcejbjoaaSizes
namespace Go.Proofs.Ytgahompcejbjoaa
open Go.RowKit

/-- What an area's places are: as many as its size, with its color. -/
theorem grp_area {m a : Nat} {xs : List Int} {ass : List (List Nat)} {l : List Nat} (h : IsGrp m xs ass) (hl : ass[a]? = some l) : l.length = szA m xs a ∧ (∀ x ∈ l, x < xs.length ∧ labAt m xs x = (a : Int)) ∧ ∃ f, l[0]? = some f ∧ f < xs.length ∧ xs.getD f 0 = colA m xs a := by
  obtain ⟨h1, h2, f, h3⟩ := h.2.1 a l hl
  have hf := (h2 f).1 (List.mem_of_getElem? h3)
  exact ⟨len_of_area h1 h2, fun x hx => (h2 x).1 hx, f, h3, hf.1, (colA_eq hf.1 hf.2).symm⟩
set_option maxRecDepth 100000 in
set_option maxHeartbeats 4000000 in
theorem implAreaSizes_any (W H : Int) (A : Option Addr) (n c B : Nat) (xs : List Int) (color : Int) (w : World) (h : Rd w B A n c xs) (hB : B ≤ w.heap.size) :
    Calls Try.prog 11 #[chartV W H (.slice A n c), .int .i64 color] w (OutInts w (sizesX W H xs color) (sizesOk W H xs color)) := by
  cases hg : goodB W H xs with
  | false =>
    have H2 := Lib.hid (sizesOk_no1 (color := color) hg)
    have HX := Lib.hid (sizesX_no H2.out)
    have hb0 := Lib.hid (show Below w.heap.size w (w.alloc (.cells #[.int .i64 W, .int .i64 H, .slice A n c] 26)) from (Below.refl _ _).alloc (Nat.le_refl _) _)
    have h' := h.alloc hB (.cells #[.int .i64 W, .int .i64 H, .slice A n c] 26)
    go_enter Try.func11, Try.ntmps11
    go_wp2_with fail
    refine (implIsChart_any W H A n c B xs _ h' (by simp; omega)).mono ?_
    rintro e w1 ⟨rfl, hb⟩
    rw [hg]
    go_wp2
    go_ret2
    rw [HX.out, H2.out]
    exact ⟨none, 0, rfl, Own.nil _ _, hb0.out.trans (hb.mono (by simp))⟩
  | true =>
    obtain ⟨m, k, b, off, rfl, rfl, rfl, rfl, hm, hm8, hk1, hk8, hl, h64, hN, _⟩ := good_open hg h
    have x0 := Cx.start (m := m) (k := k) h hB
    clear h
    cases hcl : isColorB color with
    | false =>
      have H2 := Lib.hid (sizesOk_no2 (W := m) (H := k) (xs := xs) hcl)
      have HX := Lib.hid (sizesX_no H2.out)
      go_enter Try.func11, Try.ntmps11
      go_upto_region 1 with fail
      generalize w.alloc (.cells #[.int .i64 m, .int .i64 k, .slice (some ⟨b, off, none⟩) xs.length c] 26) = w0 at *
      have e0 := x0.c0
      have e1 := x0.c1
      have e2 := x0.c2
      have hz0 := x0.sz
      go_wp2_with fail
      refine (implIsChart_any m k _ _ c B xs _ x0.rd (by omega)).mono ?_
      rintro e w1 ⟨rfl, hb⟩
      rw [hg]
      have hb4 := (x0.all hb).bel
      clear e0 e1 e2 hz0 x0 hb
      go_wp2_with fail
      refine (isColor_any color w1).mono ?_
      rintro e w2 ⟨rfl, rfl⟩
      rw [hcl]
      go_wp2
      go_ret2
      rw [HX.out, H2.out]
      exact ⟨none, 0, rfl, Own.nil _ _, hb4⟩
    | true =>
      have H2 := Lib.hid (sizesOk_yes hg hcl)
      have HX := Lib.hid (sizesX_yes H2.out)
      go_enter Try.func11, Try.ntmps11
      go_upto_region 1 with fail
      generalize w.alloc (.cells #[.int .i64 m, .int .i64 k, .slice (some ⟨b, off, none⟩) xs.length c] 26) = w0 at *
      have e0 := x0.c0
      have e1 := x0.c1
      have e2 := x0.c2
      have hz0 := x0.sz
      go_wp2_with fail
      refine (implIsChart_any m k _ _ c B xs _ x0.rd (by omega)).mono ?_
      rintro e w1 ⟨rfl, hb⟩
      rw [hg]
      have x1 := x0.all hb
      clear e0 e1 e2 hz0 x0 hb
      go_wp2_with fail
      refine (isColor_any color w1).mono ?_
      rintro e w2 ⟨rfl, rfl⟩
      rw [hcl]
      have e0 := x1.c0
      have e1 := x1.c1
      have e2 := x1.c2
      have hz1 := x1.sz
      go_wp2_with fail
      refine (areasIn_any m k b off c B xs _ x1.rd (by omega) hm hm8 hk1 hk8 hl).mono ?_
      rintro e w2 ⟨A2, c2, ass, rfl, own2, hb2, HG⟩
      have x2 := x1.all hb2
      have hP1 : w.heap.size + 1 ≤ w2.heap.size := x2.sz
      have hal : ass.length ≤ 64 := by rw [HG.out.1]; exact Nat.le_trans (cnt_le m xs) h64
      clear hb2 x1 e0 e1 e2 hz1
      go_wp2
      go_loopw [6, 20] (fun s6 s20 wr => ∃ (a : Nat) (A : Option Addr) (c' : Nat) (L : List Int), a ≤ ass.length ∧ s20 = .int .i64 a ∧ s6 = .slice A L.length c' ∧ Hid (L = sizesTo m xs color a) ∧ Own wr w2.heap.size (.slice A L.length c') L ∧ w2.heap.size ≤ wr.heap.size ∧ Hid (Below w2.heap.size w2 wr) ∧ Cx w m k b off c B xs wr) (fun _ s20 _ => ass.length - (intOf s20).toNat)
      case atStart => exact ⟨0, none, 0, [], Nat.zero_le _, rfl, rfl, Lib.hid (sizesTo_zero m xs color).symm, Own.nil _ _, Nat.le_refl _, Lib.hid (Below.refl _ _), x2⟩
      case round =>
        clear x2
        obtain ⟨a, A, c', L, ha, rfl, rfl, HL, oO, hPz, HB, x1⟩ := hrel
        have hLl := Lib.hid (show L.length ≤ 1073741824 by have := sizesTo_len m xs color a; rw [HL.out]; omega)
        by_cases hlt : a < ass.length
        · have hR := own2.all HB.out
          obtain ⟨g2, l, A1, c1, rfl, hg2, hal', hc, hrow⟩ := hR.row hlt
          obtain ⟨hln, _, f, hf, hfN, hfc⟩ := grp_area HG.out hal'
          have hl0 : 0 < l.length := (List.getElem?_eq_some_iff.1 hf).1
          obtain ⟨g3, rfl, _, _⟩ := hrow.some_ (by rw [upI_len]; omega)
          have e3 := own_at hrow (j := 0) (by rw [upI_len]; exact hl0) (upI_get hf)
          obtain ⟨kc, hk⟩ : ∃ kc, colA m xs a = kc := ⟨_, rfl⟩
          have ek := x1.knot hfN (hfc.trans hk)
          have e2 := x1.c2
          have hl64 : l.length ≤ 64 := by have := szA_le m a xs; omega
          have HLN := Lib.hid hln
          have HK := Lib.hid hk
          have hc1 := hrow.rd.cap
          have hz1 := x1.sz
          clear hR hrow hf hfc hk hln
          go_upto_region 7 with fail
          go_quiet (fail)
          replace x1 := x1.drewN nq
          replace oO := oO.drewN nq
          replace HB := Lib.hid (belowN HB.out nq)
          replace hPz : w2.heap.size ≤ (wr.drewN nq).heap.size := hPz
          clear e3 ek e2 hc
          generalize wr.drewN nq = wq at *
          by_cases hcc : kc = color
          · have hcb : (kc == color) = true := by simp [hcc]
            have HL2 := Lib.hid (show L ++ [(l.length : Int)] = sizesTo m xs color (a + 1) by rw [sizesTo_yes (by rw [HK.out, hcc]), HL.out, HLN.out])
            subst hcc
            have hbd := oO.bd
            have hlen := hLl.out
            go_wp2_with (at_builtin; refine wpList_append_one_at wq rfl (.tmp 33) (.tmp 36) 24 rfl Try.underlying24 info_int w2.heap.size L.length _ L (l.length : Int) rfl rfl rfl oO hlen ⟨by omega, by omega⟩ hPz ?_)
            intro A9 c9 w9 ho9 hg9 _
            have x9 := x1.mark hg9 (fun q hq => by have := (hbd q hq).1; omega)
            have hP9 := Nat.le_trans hPz hg9.size
            have HB9 := Lib.hid (HB.out.grown hg9 hPz (fun q hq => (hbd q hq).1))
            clear hg9 hbd oO x1 HB
            go_wp2
            go_roundw
            case rel => exact ⟨a + 1, A9, c9, _, hlt, by go_num, by rw [List.length_append]; rfl, HL2, by rw [List.length_append]; exact ho9, hP9, HB9, x9⟩
            case measure => simp [intOf]; omega
          · have hcb : (kc == color) = false := by simp [hcc]
            have HL2 := Lib.hid (show L = sizesTo m xs color (a + 1) by rw [sizesTo_no (by rw [HK.out]; exact hcc)]; exact HL.out)
            clear HL
            go_wp2
            go_roundw
            case rel => exact ⟨a + 1, A, c', L, hlt, by go_num, rfl, HL2, oO, hPz, HB, x1⟩
            case measure => simp [intOf]; omega
        · have HF := Lib.hid (show L = sizesL m xs color by rw [HL.out, sizesL, ← HG.out.1, show a = ass.length by omega])
          go_wp2
          go_ret2
          rw [HX.out, H2.out, ← HF.out]
          exact ⟨A, c', rfl, oO.mono (by omega), x1.bel⟩
end Go.Proofs.Ytgahompcejbjoaa
