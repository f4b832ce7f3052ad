/- The walk of the model's FewestLots. No condition. -/
import Derived.Test.YtpnmnkdnlajfiaaMgFst
namespace Go.Proofs.Ytpnmnkdnlajfiaa
open Go.RowKit

def fewV (o : Option Nat) : Int := match o with | some n => (n : Int) | none => 0
set_option maxRecDepth 100000 in
set_option maxHeartbeats 4000000 in
theorem specFewestLots_any (W H : Int) (A : Option Addr) (n c B : Nat) (xs : List Int) (color : Int) (A2 : Option Addr) (n2 c2 B2 : Nat) (lots : List Int) (w : World) (h : Rd w B A n c xs) (hB : B ≤ w.heap.size) (h2 : Rd w B2 A2 n2 c2 lots) (hB2 : B2 ≤ w.heap.size) :
    Calls Try.prog 10 #[chartV W H (.slice A n c), .int .i64 color, .slice A2 n2 c2] w (Out w (.tuple #[.int .i64 (fewV (fewO W H xs color lots)), .bool (fewO W H xs color lots).isSome])) := by
  cases hask : askOk W H xs color lots with
  | false =>
    have hb0 : Below w.heap.size w (w.alloc (.cells #[.int .i64 W, .int .i64 H, .slice A n c] 26)) := (Below.refl _ _).alloc (Nat.le_refl _) _
    have h' := h.alloc hB (.cells #[.int .i64 W, .int .i64 H, .slice A n c] 26)
    have h2' := h2.alloc hB2 (.cells #[.int .i64 W, .int .i64 H, .slice A n c] 26)
    have x0 := Blk.new w #[.int .i64 W, .int .i64 H, .slice A n c] 26
    have e0 := x0.cell 0
    have e1 := x0.cell 1
    have e2 := x0.cell 2
    have HX := Lib.hid (fewO_no (srchOk_no1 hask))
    rw [HX.out]
    go_enter Try.func10, Try.ntmps10
    go_upto_region 1 with fail
    generalize w.alloc (.cells #[.int .i64 W, .int .i64 H, .slice A n c] 26) = w0 at *
    have hz0 := hb0.size
    go_wp2_with fail
    refine (l12Asked_any W H A n c B xs color A2 n2 c2 B2 lots _ h' (by omega) h2' (by omega)).mono ?_
    rintro e w1 ⟨rfl, hb1⟩
    rw [hask]
    have HB := Lib.hid (hb0.trans (hb1.mono hz0))
    clear hb0 hb1 x0 e0 e1 e2
    go_wp2
    go_ret2
    exact ⟨rfl, HB.out⟩
  | true =>
    obtain ⟨hs1, hlo, hg⟩ := Ask.parts hask
    obtain ⟨hs64, hsr⟩ := sizesX_rng (W := W) (H := H) (xs := xs) (color := color)
    obtain ⟨m, k, b, off, rfl, rfl, rfl, rfl, hm, hm8, hk1, hk8, hl, h64, hN, _⟩ := good_open hg h
    have HSO := Lib.hid (srchOk_eq hask)
    have HSX := Lib.hid (sizesX_yes hs1)
    rw [sizesX_yes hs1] at hs64 hsr
    have x0 := Cx.start (m := m) (k := k) h hB
    have h2' := h2.alloc hB2 (.cells #[.int .i64 m, .int .i64 k, .slice (some ⟨b, off, none⟩) xs.length c] 26)
    have hl6 := (lotsB_yes hlo).2.1
    clear h
    obtain ⟨S, hS⟩ : ∃ S, sizesL m xs color = S := ⟨_, rfl⟩
    have HS := Lib.hid hS
    rw [hS] at hs64 hsr HSX
    rw [HSX.out] at HSO
    clear hS
    obtain rfl := h2.len
    go_enter Try.func10, Try.ntmps10
    go_upto_region 1 with fail
    generalize w.alloc (.cells #[.int .i64 m, .int .i64 k, .slice (some ⟨b, off, none⟩) xs.length c] 26) = w0 at *
    have e0 := x0.c0
    have e1 := x0.c1
    have e2 := x0.c2
    have hz0 := x0.sz
    go_wp2_with fail
    refine (l12Asked_any m k _ _ c B xs color A2 _ c2 B2 lots _ x0.rd (by omega) h2' (by omega)).mono ?_
    rintro e w1 ⟨rfl, hb1⟩
    rw [hask]
    have x1 := x0.all hb1
    clear hb1 e0 e1 e2 x0 h2' hz0
    have e0 := x1.c0
    have e1 := x1.c1
    have e2 := x1.c2
    have hz1 := x1.sz
    go_wp2_with fail
    refine (l12Color_any m k b off c B xs color _ x1.rd (by omega) hm hm8 hk1 hk8 hl hN).mono ?_
    rintro e w2 ⟨A1, c1, rfl, oS, hb2⟩
    rw [HS.out] at oS ⊢
    have x2 := x1.all hb2
    clear hb2 x1 e0 e1 e2 oS hz1
    by_cases h8 : S.length ≤ 8
    · have hd8 : decide (8 < S.length) = false := by simp; omega
      have HX := Lib.hid (show fewO m k xs color lots = (List.range (lots.length + 1)).find? (fewAt m k xs color lots) from fewO_yes (by rw [HSO.out, decide_eq_true h8]))
      have HFA := Lib.hid (show ∀ q, fewAt m k xs color lots q = (sr12 S lots q S.length []).isSome from fun q => by rw [fewAt, HSX.out])
      obtain ⟨f, hf⟩ : ∃ f, fewAt m k xs color lots = f := ⟨_, rfl⟩
      rw [hf] at HX HFA
      clear hf
      go_wp2
      go_loopw [8] (fun s8 wr => ∃ q : Nat, q ≤ lots.length + 1 ∧ s8 = .int .i64 q ∧ Hid (∀ q', q' < q → f q' = false) ∧ Cx w m k b off c B xs wr) (fun s8 _ => lots.length + 1 - (intOf s8).toNat)
      case atStart => exact ⟨0, Nat.zero_le _, rfl, Lib.hid (fun q' h => by omega), x2⟩
      case round =>
        clear x2
        obtain ⟨q, hq, rfl, HNO, x2⟩ := hrel
        by_cases hlt : q ≤ lots.length
        · have e0 := x2.c0
          have e1 := x2.c1
          have e2 := x2.c2
          have hz2' := x2.sz
          go_wp2_with fail
          refine (l12Color_any m k b off c B xs color _ x2.rd (by omega) hm hm8 hk1 hk8 hl hN).mono ?_
          rintro e w3 ⟨A3, c3, rfl, oS3, hb3⟩
          rw [HS.out] at oS3 ⊢
          have x3 := x2.all hb3
          have HB3 := Lib.hid x3.bel
          have hz3 := HB3.out.size
          clear hb3 x2 e0 e1 e2
          have oE := Own.empty (w := w3) (lo := w.heap.size) hz3
          have oS4 := oS3.alloc (.cells #[] 3)
          have x4 := x3.alloc (.cells #[] 3)
          have h24 := (h2.all HB3.out hB2).alloc (by omega) (.cells #[] 3)
          obtain ⟨P, hP⟩ : ∃ P, w3.heap.size = P := ⟨_, rfl⟩
          have hz4 : (w3.alloc (.cells #[] 3)).heap.size = P + 1 := by simp; omega
          rw [hP] at oE
          have hPw : w.heap.size ≤ P := by omega
          have hcall := l12Search_any S lots q hlo hs64 hsr S.length [] (by simp) A3 A2 (some ⟨P, 0, none⟩) c3 _ c2 B2 0 w.heap.size _ oS4.rd h24 oE (Nat.le_refl _) (by omega) (by omega)
          clear oS3 HB3 x3
          go_wp2_with fail
          generalize w3.alloc (.cells #[] 3) = W4 at *
          refine hcall.mono ?_
          rintro e w5 ⟨A5, c5, rfl, o5, hb5⟩
          have x5 := x4.all hb5
          rw [← HFA.out q]
          clear hb5 hcall o5 x4 oS4 oE h24
          cases hr : f q with
          | true =>
            have HF := Lib.hid (HX.out.trans (find_first HNO.out (by omega) hr))
            have hbf := x5.bel
            clear hr
            go_wp2
            go_ret2
            rw [HF.out]
            exact ⟨rfl, hbf⟩
          | false =>
            have HN2 := Lib.hid (show ∀ q', q' < q + 1 → f q' = false from fun q' h => by
              by_cases e : q' = q
              · subst e; exact hr
              · exact HNO.out q' (by omega))
            clear hr
            go_wp2
            go_roundw
            case rel => exact ⟨q + 1, by omega, by go_num, HN2, x5⟩
            case measure => simp [intOf]; omega
        · have HF := Lib.hid (HX.out.trans (find_none (fun q' h => HNO.out q' (by omega))))
          have hbf := x2.bel
          go_wp2
          go_ret2
          rw [HF.out]
          exact ⟨rfl, hbf⟩
    · have hd8 : decide (8 < S.length) = true := by simp; omega
      have HX := Lib.hid (fewO_no (show srchOk m k xs color lots = false by rw [HSO.out, decide_eq_false h8]))
      have hb2 := x2.bel
      clear x2
      go_wp2
      go_ret2
      rw [HX.out]
      exact ⟨rfl, hb2⟩
end Go.Proofs.Ytpnmnkdnlajfiaa
