/- The walks of the program's sizesToAssign and FirstAssignment. No condition. -/
import Derived.Test.YtacnbbdaacfacaaMgSS
import Derived.Test.YtacnbbdaacfacaaChain
import Derived.Deep.LoopGhost
import Derived.WalkMore
namespace Go.Proofs.Ytacnbbdaacfacaa
open Go.RowKit

theorem findSome_of {f : Nat → Option (List Nat)} {r : List Nat} : ∀ {n : Nat}, (List.range n).findSome? f = some r → ∃ l, l < n ∧ f l = some r
  | 0, h => by simp at h
  | n + 1, h => by
    rw [List.range_succ, List.findSome?_append] at h
    cases hr : (List.range n).findSome? f with
    | some r' =>
      rw [hr] at h
      obtain ⟨l, hl, e⟩ := findSome_of hr
      refine ⟨l, by omega, e.trans ?_⟩
      simpa using h
    | none =>
      rw [hr] at h
      refine ⟨n, by omega, ?_⟩
      simpa using h
theorem fst_some : ∀ (sizes left : List Int) (r : List Nat), fst12 sizes left = some r → r.length = sizes.length ∧ ∀ x ∈ r, x < left.length
  | [], _, r, h => by
    simp only [fst12, Option.some.injEq] at h
    subst h
    simp
  | s :: ss, left, r, h => by
    rw [fst12] at h
    obtain ⟨l, hl, e⟩ := findSome_of h
    by_cases hv : left.getD l 0 < s
    · rw [if_pos hv] at e; cases e
    · rw [if_neg hv] at e
      obtain ⟨r', hr', rfl⟩ := Option.map_eq_some_iff.1 e
      obtain ⟨h1, h2⟩ := fst_some ss _ r' hr'
      refine ⟨by simp [h1], fun x hx => ?_⟩
      rcases List.mem_cons.1 hx with e | hx
      · rw [e]; exact hl
      · have := h2 x hx
        simpa using this
set_option maxRecDepth 100000 in
set_option maxHeartbeats 4000000 in
theorem sizesToAssign_any (W H : Int) (A : Option Addr) (n c B : Nat) (xs : List Int) (color : Int) (A2 : Option Addr) (n2 c2 B2 : Nat) (lots : List Int) (w : World) (h : Rd w B A n c xs) (hB : B ≤ w.heap.size) (h2 : Rd w B2 A2 n2 c2 lots) (hB2 : B2 ≤ w.heap.size) :
    Calls Try.prog 61 #[chartV W H (.slice A n c), .int .i64 color, .slice A2 n2 c2] w fun e w' => ∃ (A1 : Option Addr) (c1 : Nat) (S : List Int), e = .returned (.tuple #[.slice A1 S.length c1, .bool (srchOk W H xs color lots)]) ∧ Own w' w.heap.size (.slice A1 S.length c1) S ∧ Below w.heap.size w w' ∧ Hid (srchOk W H xs color lots = true → S = sizesX W H xs color) := by
  have hb0 : Below w.heap.size w (w.alloc (.cells #[.int .i64 W, .int .i64 H, .slice A n c] 28)) := (Below.refl _ _).alloc (Nat.le_refl _) _
  have h' := h.alloc hB (.cells #[.int .i64 W, .int .i64 H, .slice A n c] 28)
  have x0 := Blk.new w #[.int .i64 W, .int .i64 H, .slice A n c] 28
  have e0 := x0.cell 0
  have e1 := x0.cell 1
  have e2 := x0.cell 2
  obtain ⟨so, hso⟩ : ∃ so, sizesOk W H xs color = so := ⟨_, rfl⟩
  obtain ⟨lo, hlo⟩ : ∃ lo, lotsB lots = lo := ⟨_, rfl⟩
  obtain ⟨S, hS⟩ : ∃ S, sizesX W H xs color = S := ⟨_, rfl⟩
  obtain ⟨d8, hd8⟩ : ∃ d, decide (S.length ≤ 8) = d := ⟨_, rfl⟩
  have HXA := Lib.hid (show srchOk W H xs color lots = ((so && lo) && d8) by rw [srchOk, askOk, hso, hlo, hS, hd8])
  go_enter Try.func61, Try.ntmps61
  go_upto_region 1 with fail
  generalize w.alloc (.cells #[.int .i64 W, .int .i64 H, .slice A n c] 28) = w0 at *
  have hz0 := hb0.size
  go_wp2_with fail
  refine (implAreaSizes_any W H A n c B xs color _ h' (by omega)).mono ?_
  rintro e w1 ⟨A1, c1, rfl, oS, hb1⟩
  rw [hS] at oS ⊢
  rw [hso]
  have HB := Lib.hid (hb0.trans (hb1.mono hz0))
  have oS1 := oS.mono hz0
  clear hb0 hb1 h' x0 e0 e1 e2 hso oS
  have h21 := h2.all HB.out hB2
  cases so with
  | false =>
    have HF := Lib.hid (show srchOk W H xs color lots = false by rw [HXA.out]; rfl)
    clear hd8
    go_wp2
    go_ret2
    rw [HF.out]
    exact ⟨none, 0, [], rfl, Own.nil _ _, HB.out, Lib.hid (fun h => by cases h)⟩
  | true =>
    go_wp2_with fail
    refine (areLots_any A2 n2 c2 B2 lots _ h21).mono ?_
    rintro e w2 ⟨rfl, rfl⟩
    rw [hlo]
    cases lo with
    | false =>
      have HF := Lib.hid (show srchOk W H xs color lots = false by rw [HXA.out]; rfl)
      clear hd8
      go_wp2
      go_ret2
      rw [HF.out]
      exact ⟨none, 0, [], rfl, Own.nil _ _, HB.out, Lib.hid (fun h => by cases h)⟩
    | true =>
      by_cases h8 : S.length ≤ 8
      · have hdd : decide (8 < S.length) = false := by simp; omega
        have HF := Lib.hid (show srchOk W H xs color lots = true by rw [HXA.out, ← hd8, decide_eq_true h8]; rfl)
        have HSS := Lib.hid hS.symm
        clear hd8 hS
        go_wp2
        go_ret2
        rw [HF.out]
        exact ⟨A1, c1, S, rfl, oS1, HB.out, Lib.hid (fun _ => HSS.out)⟩
      · have hdd : decide (8 < S.length) = true := by simp; omega
        have HF := Lib.hid (show srchOk W H xs color lots = false by rw [HXA.out, ← hd8, decide_eq_false h8]; rfl)
        clear hd8 hS
        go_wp2
        go_ret2
        rw [HF.out]
        exact ⟨none, 0, [], rfl, Own.nil _ _, HB.out, Lib.hid (fun h => by cases h)⟩
set_option maxRecDepth 100000 in
set_option maxHeartbeats 4000000 in
theorem implFirstAssignment_any (W H : Int) (A : Option Addr) (n c B : Nat) (xs : List Int) (color : Int) (A2 : Option Addr) (n2 c2 B2 : Nat) (lots : List Int) (w : World) (h : Rd w B A n c xs) (hB : B ≤ w.heap.size) (h2 : Rd w B2 A2 n2 c2 lots) (hB2 : B2 ≤ w.heap.size) :
    Calls Try.prog 31 #[chartV W H (.slice A n c), .int .i64 color, .slice A2 n2 c2] w (OutInts w (srL (frst W H xs color lots)) (frst W H xs color lots).isSome) := by
  have hb0 : Below w.heap.size w (w.alloc (.cells #[.int .i64 W, .int .i64 H, .slice A n c] 28)) := (Below.refl _ _).alloc (Nat.le_refl _) _
  have h' := h.alloc hB (.cells #[.int .i64 W, .int .i64 H, .slice A n c] 28)
  have h2' := h2.alloc hB2 (.cells #[.int .i64 W, .int .i64 H, .slice A n c] 28)
  have x0 := Blk.new w #[.int .i64 W, .int .i64 H, .slice A n c] 28
  have e0 := x0.cell 0
  have e1 := x0.cell 1
  have e2 := x0.cell 2
  obtain ⟨so, hso⟩ : ∃ so, srchOk W H xs color lots = so := ⟨_, rfl⟩
  obtain ⟨FO, hFO⟩ : ∃ FO, frst W H xs color lots = FO := ⟨_, rfl⟩
  have HX1 := Lib.hid (show so = false → FO = none from fun e => by rw [← hFO]; exact frst_no (hso.trans e))
  have HX2 := Lib.hid (show so = true → FO = fst12 (sizesX W H xs color) lots ∧ lotsB lots = true from fun e => ⟨by rw [← hFO]; exact frst_yes (hso.trans e), by
    have := hso.trans e
    simp only [srchOk, askOk, Bool.and_eq_true] at this
    exact this.1.2⟩)
  obtain ⟨hs64, hsr⟩ := sizesX_rng (W := W) (H := H) (xs := xs) (color := color)
  rw [hFO]
  clear hFO
  go_enter Try.func31, Try.ntmps31
  go_upto_region 1 with fail
  generalize w.alloc (.cells #[.int .i64 W, .int .i64 H, .slice A n c] 28) = w0 at *
  have hz0 := hb0.size
  go_wp2_with fail
  refine (sizesToAssign_any W H A n c B xs color A2 n2 c2 B2 lots _ h' (by omega) h2' (by omega)).mono ?_
  rintro e w1 ⟨A1, c1, S, rfl, oS, hb1, HS⟩
  rw [hso] at HS ⊢
  have HB := Lib.hid (hb0.trans (hb1.mono hz0))
  have hz1 := HB.out.size
  clear hb0 hb1 h' h2' x0 e0 e1 e2 hso
  cases so with
  | false =>
    have HF := Lib.hid (HX1.out rfl)
    go_wp2
    go_ret2
    rw [HF.out]
    exact ⟨none, 0, rfl, Own.nil _ _, HB.out⟩
  | true =>
    obtain ⟨hfo, hlo⟩ := HX2.out rfl
    have hSe := HS.out rfl
    have HFO := Lib.hid (show chn12 S lots = FO by rw [chn_eq, hSe, hfo])
    rw [← hSe] at hs64 hsr
    have h21 := h2.all HB.out hB2
    obtain ⟨hl1, hl6, hlr⟩ := lotsB_yes hlo
    obtain ⟨bl, ol, rfl, rfl⟩ := lots_open hlo h21
    have hcl : lots.length ≤ 1048576 := by omega
    clear HX1 HX2 HS hfo hSe hlo
    go_wp2_with fail
    refine (cloneInts_any bl ol _ c2 B2 lots w1 h21 (by omega) hcl).mono ?_
    rintro e w2 ⟨A4, c4, rfl, oC, hb2⟩
    obtain ⟨G, rfl, hGw, _⟩ := oC.some_ (by omega)
    have HB2 := Lib.hid (HB.out.trans (hb2.mono hz1))
    have oS2 := oS.all hb2
    have R2 : Rd w2 w1.heap.size A1 S.length c1 S := oS.rd.all hb2 (Nat.le_refl _)
    have hz2 := hb2.size
    clear hb2 HB
    go_wp2_with fail
    refine (firstChain_any S hs64 hsr lots hl6 (fun x hx => by have := hlr x hx; omega) A1 c1 w1.heap.size G c4 w1.heap.size w2 R2 oC (Nat.le_refl _) hz2).mono ?_
    rintro e w3 ⟨p, rfl, hch, hb3⟩
    have HB3 := Lib.hid (HB2.out.trans (hb3.mono (by omega)))
    obtain ⟨ok, hok⟩ : ∃ ok, (chn12 S lots).isSome = ok := ⟨_, rfl⟩
    obtain ⟨az, haz⟩ : ∃ az, (chn12 S lots).getD [] = az := ⟨_, rfl⟩
    have HOK := Lib.hid (show FO.isSome = ok by rw [← HFO.out, hok])
    have HAZ := Lib.hid (show srL FO = upI az by rw [← haz, ← HFO.out]; cases chn12 S lots <;> rfl)
    have HLN := Lib.hid (show az.length ≤ 64 ∧ ∀ x ∈ az, x < lots.length by
      rw [← haz, chn_eq]
      cases hr : fst12 S lots with
      | none => simp
      | some r =>
        obtain ⟨g1, g2⟩ := fst_some S lots r hr
        exact ⟨by simp; omega, g2⟩)
    rw [hok]
    rw [haz] at hch
    have hP3 : w.heap.size ≤ w3.heap.size := HB3.out.size
    clear HB2 R2 hb3 hok haz oC oS2 oS h21
    go_wp2
    go_loopg [10, 11] az.length (fun gh s10 s11 wr => ∃ (dn rest : List Nat) (A9 : Option Addr) (c9 : Nat), Hid (az = dn ++ rest) ∧ rest.length ≤ gh ∧ s11 = .slice A9 dn.length c9 ∧ Chain wr rest s10 ∧ Own wr w.heap.size (.slice A9 dn.length c9) (upI dn) ∧ Hid (Below w.heap.size w wr))
    case atStart => exact ⟨[], az, none, 0, Lib.hid rfl, Nat.le_refl _, rfl, hch, Own.nil _ _, HB3⟩
    case round =>
      clear hch HB3
      obtain ⟨dn, rest, A9, c9, HAD, hgh, rfl, hch, oA, HB⟩ := hrel
      have hzr := HB.out.size
      have hdn : dn.length ≤ 64 := by
        have := HLN.out.1
        rw [HAD.out, List.length_append] at this
        omega
      cases rest with
      | nil =>
        obtain rfl : _ = Value.pointer none := hch
        have HF := Lib.hid (show srL FO = upI dn by rw [HAZ.out, HAD.out, List.append_nil])
        have HDL := Lib.hid (upI_len dn)
        go_wp2
        go_ret2
        rw [HF.out, HOK.out]
        exact ⟨A9, c9, by rw [HDL.out]; rfl, by rw [HDL.out]; exact oA, HB.out⟩
      | cons l r =>
        obtain ⟨gc, q, rfl, xB, hch'⟩ := hch
        obtain ⟨pa, rfl⟩ := hch'.ptr
        have e0 := xB.cell 0
        have e1 := xB.cell 1
        have hgl := xB.lt
        have hll : l < lots.length := HLN.out.2 l (by rw [HAD.out]; simp)
        have hd30 : dn.length ≤ 1073741824 := by omega
        have hgh' := hgh
        rw [List.length_cons] at hgh'
        have HA2 := Lib.hid (show az = (dn ++ [l]) ++ r by rw [HAD.out]; simp)
        have hbd := oA.bd
        clear hgh HAD
        go_wp2_with (at_builtin; refine wpList_append_one_at wr rfl (.tmp 34) (.tmp 39) 22 rfl Try.underlying22 info_int w.heap.size dn.length _ (upI dn) (l : Int) (upI_len dn) rfl rfl oA hd30 ⟨by omega, by omega⟩ hzr ?_)
        intro A10 c10 w9 ho9 hg9 _
        have x9 := xB.mark hg9 (row_ne oA.1 xB (by decide))
        have hch9 := hch'.mark oA hg9
        have HB9 := Lib.hid (HB.out.grown hg9 hzr (fun q hq => (hbd q hq).1))
        have g1 := x9.cell 1
        have g0 := x9.cell 0
        rw [← upI_app] at ho9
        clear hg9 hbd oA xB hch' HB e0 e1
        go_wp2
        go_roundg r.length
        case measure => omega
        case rel => exact ⟨dn ++ [l], r, A10, c10, HA2, Nat.le_refl _, by rw [List.length_append]; rfl, hch9, by rw [List.length_append]; exact ho9, HB9⟩
theorem frst_len (W H : Int) (xs : List Int) (color : Int) (lots : List Int) : (srL (frst W H xs color lots)).length ≤ 1048576 := by
  cases hs : srchOk W H xs color lots with
  | false => rw [frst_no hs]; simp [srL]
  | true =>
    rw [frst_yes hs]
    cases hr : fst12 (sizesX W H xs color) lots with
    | none => simp [srL]
    | some r =>
      have h1 := (fst_some _ _ _ hr).1
      have h2 := (sizesX_rng (W := W) (H := H) (xs := xs) (color := color)).1
      simp only [srL, upI_len]
      omega
end Go.Proofs.Ytacnbbdaacfacaa
