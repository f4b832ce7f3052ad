/- The walks of GreatestArea, both texts. No condition. -/
import Derived.Test.YtpnmnkdnlajfiaaMgSizes
import Derived.OwnWalk
namespace Go.Proofs.Ytpnmnkdnlajfiaa
open Go.RowKit

/-- The greatest of the first areas. -/
noncomputable def gBest (m : Nat) (xs : List Int) : Nat → Nat
  | 0 => 0
  | a + 1 => if szA m xs (gBest m xs a) < szA m xs a then a else gBest m xs a
theorem gBest_one (m : Nat) (xs : List Int) : gBest m xs 1 = 0 := by simp [gBest]
theorem gBest_yes {m a : Nat} {xs : List Int} (h : szA m xs (gBest m xs a) < szA m xs a) : gBest m xs (a + 1) = a := if_pos h
theorem gBest_no {m a : Nat} {xs : List Int} (h : ¬ szA m xs (gBest m xs a) < szA m xs a) : gBest m xs (a + 1) = gBest m xs a := if_neg h
theorem gBest_lt (m : Nat) (xs : List Int) : ∀ a, 0 < a → gBest m xs a < a
  | 0, h => by omega
  | 1, _ => by rw [gBest_one]; omega
  | a + 2, _ => by
    have := gBest_lt m xs (a + 1) (by omega)
    rw [gBest]
    split <;> omega
noncomputable def greatA (W H : Int) (xs : List Int) : Int := if goodB W H xs = true then ((gBest W.toNat xs (cntOf W.toNat xs) : Nat) : Int) else 0
noncomputable def greatN (W H : Int) (xs : List Int) : Int := if goodB W H xs = true then ((szA W.toNat xs (gBest W.toNat xs (cntOf W.toNat xs)) : Nat) : Int) else 0
theorem greatA_yes {m k : Nat} {xs : List Int} (h : goodB m k xs = true) : greatA m k xs = ((gBest m xs (cntOf m xs) : Nat) : Int) := if_pos h
theorem greatN_yes {m k : Nat} {xs : List Int} (h : goodB m k xs = true) : greatN m k xs = ((szA m xs (gBest m xs (cntOf m xs)) : Nat) : Int) := if_pos h
theorem great_no {W H : Int} {xs : List Int} (h : goodB W H xs = false) : greatA W H xs = 0 ∧ greatN W H xs = 0 := ⟨if_neg (by rw [h]; decide), if_neg (by rw [h]; decide)⟩
theorem szA_pos {m a : Nat} {xs : List Int} (h : a < cntOf m xs) : 1 ≤ szA m xs a := by
  obtain ⟨x, hx, hl⟩ := labAt_all (m := m) h
  have hxl : x < (labsOf m xs).length := by rw [labs_len]; exact hx
  refine List.count_pos_iff.2 ?_
  rw [← hl, labAt, getD_at hxl]
  exact List.getElem_mem hxl
theorem cnt_pos {m : Nat} {xs : List Int} (h : 1 ≤ xs.length) : 1 ≤ cntOf m xs := by
  have := labAt_rng (m := m) (xs := xs) (x := 0) h
  omega
set_option maxRecDepth 100000 in
set_option maxHeartbeats 4000000 in
theorem implGreatestArea_any (W H : Int) (A : Option Addr) (n c B : Nat) (xs : List Int) (w : World) (h : Rd w B A n c xs) (hB : B ≤ w.heap.size) :
    Calls Try.prog 16 #[chartV W H (.slice A n c)] w (Out w (.tuple #[.int .i64 (greatA W H xs), .int .i64 (greatN W H xs), .bool (goodB W H xs)])) := by
  cases hg : goodB W H xs with
  | false =>
    have HX := Lib.hid (great_no hg)
    have hb0 := Lib.hid (show Below w.heap.size w (w.alloc (.cells #[.int .i64 W, .int .i64 H, .slice A n c] 26)) from (Below.refl _ _).alloc (Nat.le_refl _) _)
    have h' := h.alloc hB (.cells #[.int .i64 W, .int .i64 H, .slice A n c] 26)
    rw [HX.out.1, HX.out.2]
    go_enter Try.func16, Try.ntmps16
    go_wp2_with fail
    refine (implIsChart_any W H A n c B xs _ h' (by simp; omega)).mono ?_
    rintro e w1 ⟨rfl, hb⟩
    rw [hg]
    go_wp2
    go_ret3
    exact ⟨rfl, hb0.out.trans (hb.mono (by simp))⟩
  | true =>
    obtain ⟨m, k, b, off, rfl, rfl, rfl, rfl, hm, hm8, hk1, hk8, hl, h64, hN, _⟩ := good_open hg h
    have HXA := Lib.hid (greatA_yes hg)
    have HXN := Lib.hid (greatN_yes hg)
    have x0 := Cx.start (m := m) (k := k) h hB
    clear h
    go_enter Try.func16, Try.ntmps16
    go_upto_region 1 with fail
    generalize w.alloc (.cells #[.int .i64 m, .int .i64 k, .slice (some ⟨b, off, none⟩) xs.length c] 26) = w0 at *
    have e0 := x0.c0
    have e1 := x0.c1
    have e2 := x0.c2
    have hz0 := x0.sz
    go_wp2_with fail
    refine (implIsChart_any m k _ _ c B xs _ x0.rd (by omega)).mono ?_
    rintro e w1 ⟨rfl, hb⟩
    rw [hg]
    have x1 := x0.all hb
    clear hb e0 e1 e2 hz0 x0
    have e0 := x1.c0
    have e1 := x1.c1
    have e2 := x1.c2
    have hz1 := x1.sz
    go_wp2_with fail
    refine (areasIn_any m k b off c B xs _ x1.rd (by omega) hm hm8 hk1 hk8 hl).mono ?_
    rintro e w2 ⟨A2, c2, ass, rfl, own2, hb2, HG⟩
    have hb4 := Lib.hid (x1.all hb2).bel
    have hal : ass.length ≤ 64 := by rw [HG.out.1]; exact Nat.le_trans (cnt_le m xs) h64
    have hal1 : 1 ≤ ass.length := by rw [HG.out.1]; exact cnt_pos hN
    clear hb2 x1 e0 e1 e2 hz1
    go_wp2
    go_loopw [5, 6, 15] (fun s5 s6 s15 wr => ∃ (a g v : Nat), a ≤ ass.length ∧ s15 = .int .i64 a ∧ s5 = .int .i64 g ∧ s6 = .int .i64 v ∧ Hid (g = gBest m xs a) ∧ Hid (v = if a = 0 then 0 else szA m xs g) ∧ wr = w2) (fun _ _ s15 _ => ass.length - (intOf s15).toNat)
    case atStart => exact ⟨0, 0, 0, Nat.zero_le _, rfl, rfl, rfl, rfl, rfl, rfl⟩
    case round =>
      obtain ⟨a, g, v, ha, rfl, rfl, rfl, HGB, HV, rfl⟩ := hrel
      by_cases hlt : a < ass.length
      · obtain ⟨g2, l, A1, c1, rfl, hg2, hal', hc, hrow⟩ := own2.row hlt
        obtain ⟨hln, _, _⟩ := grp_area HG.out hal'
        have HLN := Lib.hid hln
        have hl64 : l.length ≤ 64 := by have := szA_le m a xs; omega
        have hc1 := hrow.rd.cap
        have hlp : 1 ≤ l.length := by rw [hln]; exact szA_pos (by rw [← HG.out.1]; exact hlt)
        have hv64 : v ≤ 64 := by
          rw [HV.out]; split
          · omega
          · have := szA_le m g xs; omega
        clear hrow hal' hln
        by_cases hgt : v < l.length
        · have HG2 := Lib.hid (show a = gBest m xs (a + 1) by
            by_cases e : a = 0
            · subst e; rw [gBest_one]
            · have h1 := HV.out
              rw [if_neg e] at h1
              rw [gBest_yes]
              rw [← HGB.out, ← HLN.out]; omega)
          have HV2 := Lib.hid (show l.length = if a + 1 = 0 then 0 else szA m xs a by rw [if_neg (by omega)]; exact HLN.out)
          go_wp2
          go_roundw
          case rel => exact ⟨a + 1, a, l.length, hlt, by go_num, rfl, rfl, HG2, HV2, by first | rfl | trivial⟩
          case measure => simp [intOf]; omega
        · have ha0 : a ≠ 0 := fun e => by
            have h1 := HV.out
            rw [if_pos e] at h1
            omega
          have HV1 := Lib.hid (show v = szA m xs g by have h1 := HV.out; rwa [if_neg ha0] at h1)
          have HG2 := Lib.hid (show g = gBest m xs (a + 1) by rw [gBest_no (by rw [← HGB.out, ← HLN.out, ← HV1.out]; exact hgt)]; exact HGB.out)
          have HV2 := Lib.hid (show v = if a + 1 = 0 then 0 else szA m xs g by rw [if_neg (by omega)]; exact HV1.out)
          clear HV HV1 HGB
          go_wp2
          go_roundw
          case rel => exact ⟨a + 1, g, v, hlt, by go_num, rfl, rfl, HG2, HV2, by first | rfl | trivial⟩
          case measure => simp [intOf]; omega
      · have hae : a = ass.length := by omega
        have HF1 := Lib.hid (show ((gBest m xs (cntOf m xs) : Nat) : Int) = (g : Int) by rw [← HG.out.1, ← hae, ← HGB.out])
        have HF2 := Lib.hid (show ((szA m xs (gBest m xs (cntOf m xs)) : Nat) : Int) = (v : Int) by
          have h1 := HV.out
          rw [if_neg (by omega)] at h1
          rw [← HG.out.1, ← hae, ← HGB.out, ← h1])
        clear hae
        go_wp2
        go_ret3
        rw [HXA.out, HXN.out, HF1.out, HF2.out]
        exact ⟨rfl, hb4.out⟩
set_option maxRecDepth 100000 in
set_option maxHeartbeats 4000000 in
theorem specGreatestArea_any (W H : Int) (A : Option Addr) (n c B : Nat) (xs : List Int) (w : World) (h : Rd w B A n c xs) (hB : B ≤ w.heap.size) :
    Calls Try.prog 17 #[chartV W H (.slice A n c)] w (Out w (.tuple #[.int .i64 (greatA W H xs), .int .i64 (greatN W H xs), .bool (goodB W H xs)])) := by
  cases hg : goodB W H xs with
  | false =>
    have HX := Lib.hid (great_no hg)
    have hb0 := Lib.hid (show Below w.heap.size w (w.alloc (.cells #[.int .i64 W, .int .i64 H, .slice A n c] 26)) from (Below.refl _ _).alloc (Nat.le_refl _) _)
    have h' := h.alloc hB (.cells #[.int .i64 W, .int .i64 H, .slice A n c] 26)
    rw [HX.out.1, HX.out.2]
    go_enter Try.func17, Try.ntmps17
    go_wp2_with fail
    refine (l2Good_any W H A n c B xs _ h' (by simp; omega)).mono ?_
    rintro e w1 ⟨rfl, hb⟩
    rw [hg]
    go_wp2
    go_ret3
    exact ⟨rfl, hb0.out.trans (hb.mono (by simp))⟩
  | true =>
    obtain ⟨m, k, b, off, rfl, rfl, rfl, rfl, hm, hm8, hk1, hk8, hl, h64, hN, _⟩ := good_open hg h
    have HXA := Lib.hid (greatA_yes hg)
    have HXN := Lib.hid (greatN_yes hg)
    have x0 := Cx.start (m := m) (k := k) h hB
    have hcn : cntOf m xs ≤ 64 := Nat.le_trans (cnt_le m xs) h64
    have hc1 := cnt_pos (m := m) hN
    clear h
    go_enter Try.func17, Try.ntmps17
    go_upto_region 1 with fail
    generalize w.alloc (.cells #[.int .i64 m, .int .i64 k, .slice (some ⟨b, off, none⟩) xs.length c] 26) = w0 at *
    have e0 := x0.c0
    have e1 := x0.c1
    have e2 := x0.c2
    have hz0 := x0.sz
    go_wp2_with fail
    refine (l2Good_any m k _ _ c B xs _ x0.rd (by omega)).mono ?_
    rintro e w1 ⟨rfl, hb⟩
    rw [hg]
    have x1 := x0.all hb
    clear hb e0 e1 e2 hz0 x0
    have e0 := x1.c0
    have e1 := x1.c1
    have e2 := x1.c2
    have hz1 := x1.sz
    go_wp2_with fail
    refine (l12Sizes_any m k b off c B xs _ x1.rd (by omega) hm hm8 hk1 hk8 hl).mono ?_
    rintro e w2 ⟨A1, A2, c1, c2, S, K, rfl, oS, oK, hb2, HSK⟩
    have hb4 := Lib.hid (x1.all hb2).bel
    obtain ⟨p, rfl, _, _⟩ := oS.some_ (by rw [HSK.out.1]; omega)
    clear oK hb2 x1 e0 e1 e2 hz1
    obtain ⟨n, HN⟩ : ∃ n, Hid (cntOf m xs = n) := ⟨_, rfl⟩
    rw [show cntOf m xs = n from HN.out] at oS HSK hcn hc1 ⊢
    go_wp2
    go_loopw [7, 8] (fun s7 s8 wr => ∃ (a g : Nat), 1 ≤ a ∧ a ≤ n ∧ s8 = .int .i64 a ∧ s7 = .int .i64 g ∧ Hid (g = gBest m xs a) ∧ Own wr w1.heap.size (.slice (some ⟨p, 0, none⟩) n c1) S ∧ Hid (Below w.heap.size w wr)) (fun _ s8 _ => n - (intOf s8).toNat)
    case atStart => exact ⟨1, 0, Nat.le_refl _, hc1, rfl, rfl, Lib.hid (gBest_one m xs).symm, oS, hb4⟩
    case round =>
      clear oS hb4
      obtain ⟨a, g, ha1, ha, rfl, rfl, HGB, oS, HB⟩ := hrel
      have hga : g < a := by rw [HGB.out]; exact gBest_lt m xs a ha1
      by_cases hlt : a < n
      · obtain ⟨v, hv⟩ : ∃ v, szA m xs a = v := ⟨_, rfl⟩
        obtain ⟨u, hu⟩ : ∃ u, szA m xs g = u := ⟨_, rfl⟩
        have ea := own_at oS (j := a) (x := (v : Int)) (by rw [HSK.out.1]; exact hlt) (by rw [← hv]; exact (HSK.out.2.2 a hlt).1)
        have eg := own_at oS (j := g) (x := (u : Int)) (by rw [HSK.out.1]; omega) (by rw [← hu]; exact (HSK.out.2.2 g (by omega)).1)
        have HV := Lib.hid hv
        have HU := Lib.hid hu
        have hgn : g < n := by omega
        clear hv hu
        by_cases hgt : u < v
        · have HG2 := Lib.hid (show a = gBest m xs (a + 1) by rw [gBest_yes]; rw [← HGB.out, HU.out, HV.out]; exact hgt)
          go_wp2
          go_quiet (fail)
          have oS' := oS.drewN nq
          have HB' := Lib.hid (belowN HB.out nq)
          clear oS HB ea eg
          generalize wr.drewN nq = wq at *
          go_wp2
          go_roundw
          case rel => exact ⟨a + 1, a, by omega, hlt, by go_num, rfl, HG2, oS', HB'⟩
          case measure => simp [intOf]; omega
        · have HG2 := Lib.hid (show g = gBest m xs (a + 1) by rw [gBest_no (by rw [← HGB.out, HU.out, HV.out]; exact hgt)]; exact HGB.out)
          clear HGB
          go_wp2
          go_quiet (fail)
          have oS' := oS.drewN nq
          have HB' := Lib.hid (belowN HB.out nq)
          clear oS HB ea eg
          generalize wr.drewN nq = wq at *
          go_wp2
          go_roundw
          case rel => exact ⟨a + 1, g, by omega, hlt, by go_num, rfl, HG2, oS', HB'⟩
          case measure => simp [intOf]; omega
      · have hae : a = n := by omega
        obtain ⟨u, hu⟩ : ∃ u, szA m xs g = u := ⟨_, rfl⟩
        have eg := own_at oS (j := g) (x := (u : Int)) (by rw [HSK.out.1]; omega) (by rw [← hu]; exact (HSK.out.2.2 g (by omega)).1)
        have hgn : g < n := by omega
        have HF1 := Lib.hid (show ((gBest m xs (cntOf m xs) : Nat) : Int) = (g : Int) by rw [HN.out, ← hae, ← HGB.out])
        have HF2 := Lib.hid (show ((szA m xs (gBest m xs (cntOf m xs)) : Nat) : Int) = (u : Int) by rw [HN.out, ← hae, ← HGB.out, hu])
        clear hae hu
        go_wp2
        go_quiet (fail)
        have HB' := Lib.hid (belowN HB.out nq)
        go_wp2
        go_ret3
        rw [HXA.out, HXN.out, HF1.out, HF2.out]
        exact ⟨rfl, HB'.out⟩
end Go.Proofs.Ytpnmnkdnlajfiaa
