/- The walks of the model's FirstAssignment and FewestLots. No condition. -/
import Derived.Test.YtacnbbdaacfacaaSearchS2
namespace Go.Proofs.Ytacnbbdaacfacaa
open Go.RowKit

/-- A search is asked for: all is valid, the areas are few. -/
noncomputable def srchOk (W H : Int) (xs : List Int) (color : Int) (lots : List Int) : Bool := askOk W H xs color lots && decide ((sizesX W H xs color).length ≤ 8)
noncomputable def frst (W H : Int) (xs : List Int) (color : Int) (lots : List Int) : Option (List Nat) := if srchOk W H xs color lots = true then fst12 (sizesX W H xs color) lots else none
theorem frst_no {W H : Int} {xs : List Int} {color : Int} {lots : List Int} (h : srchOk W H xs color lots = false) : frst W H xs color lots = none := if_neg (by rw [h]; decide)
theorem frst_yes {W H : Int} {xs : List Int} {color : Int} {lots : List Int} (h : srchOk W H xs color lots = true) : frst W H xs color lots = fst12 (sizesX W H xs color) lots := if_pos h
theorem srchOk_no1 {W H : Int} {xs : List Int} {color : Int} {lots : List Int} (h : askOk W H xs color lots = false) : srchOk W H xs color lots = false := by simp [srchOk, h]
theorem srchOk_eq {W H : Int} {xs : List Int} {color : Int} {lots : List Int} (h : askOk W H xs color lots = true) : srchOk W H xs color lots = decide ((sizesX W H xs color).length ≤ 8) := by simp [srchOk, h]
/-- The fewest lots: the least number of greatest lots that are enough. -/
noncomputable def fewAt (W H : Int) (xs : List Int) (color : Int) (lots : List Int) (n : Nat) : Bool := (sr12 (sizesX W H xs color) lots n (sizesX W H xs color).length []).isSome
noncomputable def fewO (W H : Int) (xs : List Int) (color : Int) (lots : List Int) : Option Nat := if srchOk W H xs color lots = true then (List.range (lots.length + 1)).find? (fewAt W H xs color lots) else none
theorem fewO_no {W H : Int} {xs : List Int} {color : Int} {lots : List Int} (h : srchOk W H xs color lots = false) : fewO W H xs color lots = none := if_neg (by rw [h]; decide)
theorem fewO_yes {W H : Int} {xs : List Int} {color : Int} {lots : List Int} (h : srchOk W H xs color lots = true) : fewO W H xs color lots = (List.range (lots.length + 1)).find? (fewAt W H xs color lots) := if_pos h
theorem find_first {f : Nat → Bool} {k : Nat} : ∀ {n : Nat}, (∀ k', k' < k → f k' = false) → k < n → f k = true → (List.range n).find? f = some k
  | 0, _, hk, _ => by omega
  | n + 1, h, hk, hr => by
    rw [List.range_succ, List.find?_append]
    by_cases e : k = n
    · subst e
      rw [List.find?_eq_none.2 (fun x hx => by rw [h x (List.mem_range.1 hx)]; decide)]
      simp [hr]
    · rw [find_first h (by omega) hr]
      rfl
theorem find_none {f : Nat → Bool} {n : Nat} (h : ∀ k, k < n → f k = false) : (List.range n).find? f = none :=
  List.find?_eq_none.2 (fun x hx => by rw [h x (List.mem_range.1 hx)]; decide)
/-- The part that both have in common: what is asked, whether the areas are few. -/
structure Ask (W H : Int) (xs : List Int) (color : Int) (lots : List Int) : Prop where
  ask : askOk W H xs color lots = true
theorem Ask.parts {W H : Int} {xs : List Int} {color : Int} {lots : List Int} (h : askOk W H xs color lots = true) : sizesOk W H xs color = true ∧ lotsB lots = true ∧ goodB W H xs = true := by
  simp only [askOk, Bool.and_eq_true] at h
  have h1 := h.1
  simp only [sizesOk, Bool.and_eq_true] at h1
  exact ⟨h.1, h.2, h1.1⟩
set_option maxRecDepth 100000 in
set_option maxHeartbeats 4000000 in
theorem specFirstAssignment_any (W H : Int) (A : Option Addr) (n c B : Nat) (xs : List Int) (color : Int) (A2 : Option Addr) (n2 c2 B2 : Nat) (lots : List Int) (w : World) (h : Rd w B A n c xs) (hB : B ≤ w.heap.size) (h2 : Rd w B2 A2 n2 c2 lots) (hB2 : B2 ≤ w.heap.size) :
    Calls Try.prog 30 #[chartV W H (.slice A n c), .int .i64 color, .slice A2 n2 c2] w (OutInts w (srL (frst W H xs color lots)) (frst W H xs color lots).isSome) := by
  cases hask : askOk W H xs color lots with
  | false =>
    have hb0 : Below w.heap.size w (w.alloc (.cells #[.int .i64 W, .int .i64 H, .slice A n c] 28)) := (Below.refl _ _).alloc (Nat.le_refl _) _
    have h' := h.alloc hB (.cells #[.int .i64 W, .int .i64 H, .slice A n c] 28)
    have h2' := h2.alloc hB2 (.cells #[.int .i64 W, .int .i64 H, .slice A n c] 28)
    have x0 := Blk.new w #[.int .i64 W, .int .i64 H, .slice A n c] 28
    have e0 := x0.cell 0
    have e1 := x0.cell 1
    have e2 := x0.cell 2
    have HX := Lib.hid (frst_no (srchOk_no1 hask))
    go_enter Try.func30, Try.ntmps30
    go_upto_region 1 with fail
    generalize w.alloc (.cells #[.int .i64 W, .int .i64 H, .slice A n c] 28) = w0 at *
    have hz0 := hb0.size
    go_wp2_with fail
    refine (l12Asked_any W H A n c B xs color A2 n2 c2 B2 lots _ h' (by omega) h2' (by omega)).mono ?_
    rintro e w1 ⟨rfl, hb1⟩
    rw [hask]
    have HB := Lib.hid (hb0.trans (hb1.mono hz0))
    have hz1 := HB.out.size
    have oE := Own.empty (w := w1) (lo := w.heap.size) hz1
    have HBE := Lib.hid (HB.out.alloc hz1 (.cells #[] 3))
    clear hb0 hb1 x0 e0 e1 e2
    go_wp2
    go_ret2
    rw [HX.out]
    exact ⟨_, 0, rfl, oE, HBE.out⟩
  | true =>
    obtain ⟨hs1, hlo, hg⟩ := Ask.parts hask
    obtain ⟨hs64, hsr⟩ := sizesX_rng (W := W) (H := H) (xs := xs) (color := color)
    obtain ⟨m, k, b, off, rfl, rfl, rfl, rfl, hm, hm8, hk1, hk8, hl, h64, hN, _⟩ := good_open hg h
    have HSO := Lib.hid (srchOk_eq hask)
    have HSX := Lib.hid (sizesX_yes hs1)
    rw [sizesX_yes hs1] at hs64 hsr
    have x0 := Cx.start (m := m) (k := k) h hB
    have h2' := h2.alloc hB2 (.cells #[.int .i64 m, .int .i64 k, .slice (some ⟨b, off, none⟩) xs.length c] 28)
    have hl6 := (lotsB_yes hlo).2.1
    clear h
    obtain ⟨S, hS⟩ : ∃ S, sizesL m xs color = S := ⟨_, rfl⟩
    have HS := Lib.hid hS
    rw [hS] at hs64 hsr HSX
    rw [HSX.out] at HSO
    clear hS
    obtain rfl := h2.len
    go_enter Try.func30, Try.ntmps30
    go_upto_region 1 with fail
    generalize w.alloc (.cells #[.int .i64 m, .int .i64 k, .slice (some ⟨b, off, none⟩) xs.length c] 28) = w0 at *
    have e0 := x0.c0
    have e1 := x0.c1
    have e2 := x0.c2
    have hz0 := x0.sz
    go_wp2_with fail
    refine (l12Asked_any m k _ _ c B xs color A2 _ c2 B2 lots _ x0.rd (by omega) h2' (by omega)).mono ?_
    rintro e w1 ⟨rfl, hb1⟩
    rw [hask]
    have x1 := x0.all hb1
    clear hb1 e0 e1 e2 x0 h2' hz0
    have e0 := x1.c0
    have e1 := x1.c1
    have e2 := x1.c2
    have hz1 := x1.sz
    go_wp2_with fail
    refine (l12Color_any m k b off c B xs color _ x1.rd (by omega) hm hm8 hk1 hk8 hl hN).mono ?_
    rintro e w2 ⟨A1, c1, rfl, oS, hb2⟩
    rw [HS.out] at oS ⊢
    have x2 := x1.all hb2
    have hz2 := x2.bel.size
    clear hb2 x1 e0 e1 e2 oS
    by_cases h8 : S.length ≤ 8
    · have hd8 : decide (8 < S.length) = false := by simp; omega
      have HX := Lib.hid (show frst m k xs color lots = fst12 S lots by rw [frst_yes (by rw [HSO.out, decide_eq_true h8]), HSX.out])
      have HSR := Lib.hid (show sr12 S lots lots.length S.length [] = fst12 S lots by
        rw [sr_eq S.length [] (by simp), if_pos (by simp [fitG, upI])]
        simp [lft12])
      have e0 := x2.c0
      have e1 := x2.c1
      have e2 := x2.c2
      have hz2' := x2.sz
      go_wp2_with fail
      refine (l12Color_any m k b off c B xs color _ x2.rd (by omega) hm hm8 hk1 hk8 hl hN).mono ?_
      rintro e w3 ⟨A3, c3, rfl, oS3, hb3⟩
      rw [HS.out] at oS3 ⊢
      have HB3 := Lib.hid (x2.all hb3).bel
      have hz3 := HB3.out.size
      clear hb3 x2 e0 e1 e2
      have oE := Own.empty (w := w3) (lo := w.heap.size) hz3
      have oS4 := oS3.alloc (.cells #[] 3)
      have h24 := (h2.all HB3.out hB2).alloc (by omega) (.cells #[] 3)
      have HB4 := Lib.hid (HB3.out.alloc hz3 (.cells #[] 3))
      obtain ⟨P, hP⟩ : ∃ P, w3.heap.size = P := ⟨_, rfl⟩
      have hz4 : (w3.alloc (.cells #[] 3)).heap.size = P + 1 := by simp; omega
      rw [hP] at oE
      have hPw : w.heap.size ≤ P := by omega
      have hcall := l12Search_any S lots lots.length hlo hs64 hsr S.length [] (by simp) A3 A2 (some ⟨P, 0, none⟩) c3 _ c2 B2 0 w.heap.size _ oS4.rd h24 oE (Nat.le_refl _) (by omega) (by omega)
      clear oS3 HB3
      go_wp2_with fail
      generalize w3.alloc (.cells #[] 3) = W4 at *
      refine hcall.mono ?_
      rintro e w5 ⟨A5, c5, rfl, o5, hb5⟩
      have HB5 := Lib.hid (HB4.out.trans (hb5.mono (by omega)))
      rw [HSR.out] at o5 ⊢
      clear hb5 hcall
      go_wp2
      go_ret2
      rw [HX.out]
      exact ⟨A5, c5, rfl, o5, HB5.out⟩
    · have hd8 : decide (8 < S.length) = true := by simp; omega
      have HX := Lib.hid (frst_no (show srchOk m k xs color lots = false by rw [HSO.out, decide_eq_false h8]))
      have hb2 := x2.bel
      have oE := Own.empty (w := w2) (lo := w.heap.size) hz2
      have HBE := Lib.hid (hb2.alloc hz2 (.cells #[] 3))
      clear x2
      go_wp2
      go_ret2
      rw [HX.out]
      exact ⟨_, 0, rfl, oE, HBE.out⟩
end Go.Proofs.Ytacnbbdaacfacaa
