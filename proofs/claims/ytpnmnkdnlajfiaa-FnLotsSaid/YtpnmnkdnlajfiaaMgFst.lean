/- Several texts of this proof in one: SearchS, SearchS2, FirstS. No condition. -/
import Derived.Test.YtpnmnkdnlajfiaaMgSrch
import Derived.Test.YtpnmnkdnlajfiaaAssign
import Derived.Test.YtpnmnkdnlajfiaaHas1
namespace Go.Proofs.Ytpnmnkdnlajfiaa
open Go.RowKit

theorem Rd.headI {w : World} {B n c q : Nat} {A : Option Addr} {xs : List Int} (h : Rd w B A n c xs) (hq : q ≤ n) : Rd w B A q c (xs.take q) :=
  ⟨by rw [List.length_take, h.len]; omega, by have := h.cap; omega, h.max, fun hp => by
    obtain ⟨b, off, e, hb, hc⟩ := h.cells (by omega)
    refine ⟨b, off, e, hb, fun j hj => ?_⟩
    rw [hc j (by omega)]
    congr 2
    rw [List.getD_eq_getElem?_getD, List.getD_eq_getElem?_getD, List.getElem?_take, if_pos hj], fun x hx => h.fits x (List.mem_of_mem_take hx), fun e => by
    have := h.nil e
    omega⟩
theorem mem_upI {l : List Nat} {x : Nat} : (x : Int) ∈ upI l ↔ x ∈ l := by
  simp only [upI, List.mem_map]
  exact ⟨fun ⟨y, hy, e⟩ => by rw [← Int.ofNat_inj.1 e]; exact hy, fun h => ⟨x, h, rfl⟩⟩
theorem upI_take (l : List Nat) (k : Nat) : (upI l).take k = upI (l.take k) := by simp [upI]
set_option maxRecDepth 100000 in
set_option maxHeartbeats 2000000 in
theorem l12Different_any (A : Option Addr) (c B : Nat) (bl : List Nat) (w : World) (h : Rd w B A bl.length c (upI bl)) (hB : B ≤ w.heap.size) (hl : bl.length ≤ 1000) :
    Calls Try.prog 46 #[.slice A bl.length c] w (Out w (.int .i64 (dif12 bl : Nat))) := by
  go_enter Try.func46, Try.ntmps46
  go_wp2
  go_loopw [3, 4] (fun s3 s4 wr => ∃ i d : Nat, i ≤ bl.length ∧ s4 = .int .i64 i ∧ s3 = .int .i64 d ∧ Hid (d = dif12 (bl.take i)) ∧ d ≤ i ∧ Hid (Below w.heap.size w wr)) (fun _ s4 _ => bl.length - (intOf s4).toNat)
  case atStart => exact ⟨0, 0, Nat.zero_le _, rfl, rfl, Lib.hid (by simp [dif12]), Nat.le_refl _, Lib.hid (Below.refl _ _)⟩
  case round =>
    obtain ⟨i, d, hi, rfl, rfl, HD, hdi, HB⟩ := hrel
    by_cases hlt : i < bl.length
    · have R := h.all HB.out hB
      obtain ⟨x, hx⟩ : ∃ x, bl[i]? = some x := ⟨bl[i], List.getElem?_eq_getElem hlt⟩
      obtain ⟨b, off, y, rfl, _, hc, _, _, HY⟩ := R.at hlt
      obtain rfl : y = (x : Int) := HY.out.symm.trans (upI_get hx)
      obtain ⟨dm, hdm⟩ : ∃ dm, decide (x ∈ bl.take i) = dm := ⟨_, rfl⟩
      have hd2 : decide ((x : Int) ∈ (upI bl).take i) = dm := by rw [upI_take, ← hdm]; simp only [mem_upI]
      have RH := R.headI (q := i) (by omega)
      have hiI : (i : Int) < (bl.length : Int) := by omega
      have hcc := R.cap
      have hmm := R.max
      unfold maxLen at hmm
      have e : bl.take (i + 1) = bl.take i ++ [x] := by rw [List.take_add_one, hx]; rfl
      cases dm with
      | true =>
        have HD2 := Lib.hid (show d = dif12 (bl.take (i + 1)) by rw [e, dif_snoc, if_pos (of_decide_eq_true hdm)]; exact HD.out)
        have HDM := Lib.hid hd2
        clear HD hdm hd2 e hx R
        go_wp2
        go_quiet ((go_at_call 62; exact quiet_same (l1Has_eq _ _ _ _ _ _ _ (RH.drewN _) true HDM.out)))
        have HB3 := Lib.hid (belowN HB.out nq)
        clear HB RH hc
        generalize wr.drewN nq = wq at *
        go_wp2
        go_roundw
        case rel => exact ⟨i + 1, d, hlt, by go_num, rfl, HD2, by omega, HB3⟩
        case measure => simp [intOf]; omega
      | false =>
        have HD2 := Lib.hid (show d + 1 = dif12 (bl.take (i + 1)) by rw [e, dif_snoc, if_neg (of_decide_eq_false hdm), ← HD.out])
        have HDM := Lib.hid hd2
        clear HD hdm hd2 e hx R
        go_wp2
        go_quiet ((go_at_call 62; exact quiet_same (l1Has_eq _ _ _ _ _ _ _ (RH.drewN _) false HDM.out)))
        have HB3 := Lib.hid (belowN HB.out nq)
        clear HB RH hc
        generalize wr.drewN nq = wq at *
        go_wp2
        go_roundw
        case rel => exact ⟨i + 1, d + 1, hlt, by go_num, by go_num, HD2, by omega, HB3⟩
        case measure => simp [intOf]; omega
    · have HF := Lib.hid (show ((dif12 bl : Nat) : Int) = (d : Int) by rw [HD.out, List.take_of_length_le (by omega)])
      go_wp2
      go_ret
      rw [HF.out]
      exact ⟨rfl, HB.out⟩
end Go.Proofs.Ytpnmnkdnlajfiaa
namespace Go.Proofs.Ytpnmnkdnlajfiaa
open Go.RowKit

def srL (o : Option (List Nat)) : List Int := match o with | some y => upI y | none => []
def SrOut (w : World) (lo : Nat) (o : Option (List Nat)) (e : Ending) (w' : World) : Prop :=
  ∃ A c, e = .returned (.tuple #[.slice A (srL o).length c, .bool o.isSome]) ∧ Own w' lo (.slice A (srL o).length c) (srL o) ∧ Below w.heap.size w w'
theorem findSome_none {f : Nat → Option (List Nat)} {n : Nat} (h : ∀ k, k < n → f k = none) : (List.range n).findSome? f = none := by
  rw [List.findSome?_eq_none_iff]
  exact fun x hx => h x (List.mem_range.1 hx)
theorem findSome_first {f : Nat → Option (List Nat)} {k : Nat} {r : List Nat} : ∀ {n : Nat}, (∀ k', k' < k → f k' = none) → k < n → f k = some r → (List.range n).findSome? f = some r
  | 0, _, hk, _ => by omega
  | n + 1, h, hk, hr => by
    rw [List.range_succ, List.findSome?_append]
    by_cases e : k = n
    · subst e
      rw [findSome_none h]
      simp [hr]
    · rw [findSome_first h (by omega) hr]
      rfl
set_option maxRecDepth 100000 in
set_option maxHeartbeats 4000000 in
theorem l12Search_any (sizes lots : List Int) (most : Nat) (hlo : lotsB lots = true) (hs : sizes.length ≤ 64) (hsr : ∀ y ∈ sizes, 0 ≤ y ∧ y ≤ 64) :
    ∀ (n : Nat) (bl : List Nat), bl.length + n = sizes.length → ∀ (A1 A2 A4 : Option Addr) (c1 B1 c2 B2 c4 lo : Nat) (w : World), Rd w B1 A1 sizes.length c1 sizes → Rd w B2 A2 lots.length c2 lots → Own w lo (.slice A4 bl.length c4) (upI bl) → B1 ≤ w.heap.size → B2 ≤ w.heap.size → lo ≤ w.heap.size →
      Calls Try.prog 24 #[.slice A1 sizes.length c1, .slice A2 lots.length c2, .int .i64 most, .slice A4 bl.length c4] w (SrOut w lo (sr12 sizes lots most n bl)) := by
  intro n
  induction n with
  | zero =>
    intro bl hn A1 A2 A4 c1 B1 c2 B2 c4 lo w h1 h2 h4 hB1 hB2 hlw
    obtain ⟨f, hf⟩ : ∃ f, fitG sizes lots (upI bl) = f := ⟨_, rfl⟩
    have hbl : bl.length ≤ 1000 := by omega
    have hlb : bl.length ≤ 64 := by omega
    have heq : ((bl.length : Int) == (sizes.length : Int)) = true := by simp; omega
    go_enter Try.func24, Try.ntmps24
    go_wp2_with fail
    refine (l12Fits_any A1 A2 A4 _ c1 B1 _ c2 B2 bl.length c4 w.heap.size sizes lots (upI bl) w h1 h2 h4.rd hB1 hB2 (Nat.le_refl _) hlo hs hsr).mono ?_
    rintro e w1 ⟨rfl, hb1⟩
    rw [hf]
    have o1 := h4.all hb1
    have HB := Lib.hid hb1
    have hz1 := hb1.size
    clear hb1
    cases f with
    | false =>
      have HX := Lib.hid (show sr12 sizes lots most 0 bl = none by rw [sr12, if_neg (fun h => by rw [hf] at h; exact absurd h.1 (by decide))])
      have oE := Own.empty (w := w1) (lo := lo) (by omega)
      have HBE := Lib.hid (HB.out.alloc hz1 (.cells #[] 3))
      clear hf heq
      go_wp2
      go_ret2
      rw [HX.out]
      exact ⟨_, 0, rfl, oE, HBE.out⟩
    | true =>
      go_wp2_with fail
      refine (l12Different_any A4 c4 w1.heap.size bl w1 o1.rd (Nat.le_refl _) hbl).mono ?_
      rintro e w2 ⟨rfl, hb2⟩
      have HB2 := Lib.hid (HB.out.trans (hb2.mono hz1))
      have o2 := o1.all hb2
      have hz2 := HB2.out.size
      have hdl : dif12 bl ≤ bl.length := dif_le (fun x hx => hx)
      obtain ⟨d, hd⟩ : ∃ d, dif12 bl = d := ⟨_, rfl⟩
      rw [hd] at hdl ⊢
      clear hb2 o1
      by_cases hgt : most < d
      · have HX := Lib.hid (show sr12 sizes lots most 0 bl = none by rw [sr12, if_neg (fun h => by rw [hd] at h; omega)])
        have oE := Own.empty (w := w2) (lo := lo) (by omega)
        have HBE := Lib.hid (HB2.out.alloc hz2 (.cells #[] 3))
        clear hf heq hd
        go_wp2
        go_ret2
        rw [HX.out]
        exact ⟨_, 0, rfl, oE, HBE.out⟩
      · have HX := Lib.hid (show sr12 sizes lots most 0 bl = some bl by rw [sr12, if_pos ⟨hf, by omega⟩])
        have HL := Lib.hid (upI_len bl)
        clear hf hd
        go_wp2
        go_ret2
        rw [HX.out]
        refine ⟨A4, c4, ?_, ?_, HB2.out⟩
        · simp only [srL]; rw [HL.out]; rfl
        · simp only [srL]; rw [HL.out]; exact o2
  | succ n ih =>
    intro bl hn A1 A2 A4 c1 B1 c2 B2 c4 lo w h1 h2 h4 hB1 hB2 hlw
    obtain ⟨f, hf⟩ : ∃ f, fitG sizes lots (upI bl) = f := ⟨_, rfl⟩
    have hbl : bl.length ≤ 1000 := by omega
    have hlb : bl.length ≤ 64 := by omega
    have heq : ((bl.length : Int) == (sizes.length : Int)) = false := by simp; omega
    have hl6 := (lotsB_yes hlo).2.1
    go_enter Try.func24, Try.ntmps24
    go_wp2_with fail
    refine (l12Fits_any A1 A2 A4 _ c1 B1 _ c2 B2 bl.length c4 w.heap.size sizes lots (upI bl) w h1 h2 h4.rd hB1 hB2 (Nat.le_refl _) hlo hs hsr).mono ?_
    rintro e w1 ⟨rfl, hb1⟩
    rw [hf]
    have o1 := h4.all hb1
    have HB := Lib.hid hb1
    have hz1 := hb1.size
    clear hb1
    cases f with
    | false =>
      have HX := Lib.hid (show sr12 sizes lots most (n + 1) bl = none by rw [sr12, if_neg (fun h => by rw [hf] at h; exact absurd h.1 (by decide))])
      have oE := Own.empty (w := w1) (lo := lo) (by omega)
      have HBE := Lib.hid (HB.out.alloc hz1 (.cells #[] 3))
      clear hf heq ih
      go_wp2
      go_ret2
      rw [HX.out]
      exact ⟨_, 0, rfl, oE, HBE.out⟩
    | true =>
      go_wp2_with fail
      refine (l12Different_any A4 c4 w1.heap.size bl w1 o1.rd (Nat.le_refl _) hbl).mono ?_
      rintro e w2 ⟨rfl, hb2⟩
      have HB2 := Lib.hid (HB.out.trans (hb2.mono hz1))
      have o2 := o1.all hb2
      have hz2 := HB2.out.size
      have hdl : dif12 bl ≤ bl.length := dif_le (fun x hx => hx)
      obtain ⟨d, hd⟩ : ∃ d, dif12 bl = d := ⟨_, rfl⟩
      rw [hd] at hdl ⊢
      clear hb2 o1
      by_cases hgt : most < d
      · have HX := Lib.hid (show sr12 sizes lots most (n + 1) bl = none by rw [sr12, if_neg (fun h => by rw [hd] at h; omega)])
        have oE := Own.empty (w := w2) (lo := lo) (by omega)
        have HBE := Lib.hid (HB2.out.alloc hz2 (.cells #[] 3))
        clear hf heq hd ih
        go_wp2
        go_ret2
        rw [HX.out]
        exact ⟨_, 0, rfl, oE, HBE.out⟩
      · have HX := Lib.hid (show sr12 sizes lots most (n + 1) bl = (List.range lots.length).findSome? fun k => sr12 sizes lots most n (bl ++ [k]) by rw [sr12, if_pos ⟨hf, by omega⟩])
        have HIH := Lib.hid ih
        clear hf hd ih
        go_wp2
        go_loopw [10] (fun s10 wr => ∃ k : Nat, k ≤ lots.length ∧ s10 = .int .i64 k ∧ Hid (∀ k', k' < k → sr12 sizes lots most n (bl ++ [k']) = none) ∧ Hid (Below w.heap.size w wr)) (fun s10 _ => lots.length - (intOf s10).toNat)
        case atStart => exact ⟨0, Nat.zero_le _, rfl, Lib.hid (fun k' h => by omega), HB2⟩
        case round =>
          obtain ⟨k, hk, rfl, HNO, HBr⟩ := hrel
          have hzr := HBr.out.size
          by_cases hlt : k < lots.length
          · have hb20 : bl.length ≤ 1048576 := by omega
            have oR := h4.all HBr.out
            go_wp2_with fail
            refine (l1Own_any A4 bl.length c4 wr.heap.size (upI bl) wr oR.rd (Nat.le_refl _) hb20).mono ?_
            rintro e w5 ⟨A5, c5, rfl, o5, hb5⟩
            have HB5 := Lib.hid (HBr.out.trans (hb5.mono hzr))
            have hz5 := hb5.size
            rw [upI_len] at o5 ⊢
            have hbd := o5.bd
            have hb30 : bl.length ≤ 1073741824 := by omega
            clear hb5 oR
            go_wp2_with (at_builtin; refine wpList_append_one_at w5 rfl (.tmp 42) (.tmp 44) 24 rfl Try.underlying24 info_int wr.heap.size bl.length _ (upI bl) (k : Int) (upI_len bl) rfl rfl o5 hb30 ⟨by omega, by omega⟩ hz5 ?_)
            intro A6 c6 w6 o6 hg6 _
            have HB6 := Lib.hid (HB5.out.grown hg6 (Nat.le_trans hzr hz5) (fun q hq => Nat.le_trans hzr (hbd q hq).1))
            have hz6 : wr.heap.size ≤ w6.heap.size := Nat.le_trans hz5 hg6.size
            rw [← upI_app] at o6
            have R1 := h1.all HB6.out hB1
            have R2 := h2.all HB6.out hB2
            have o6' : Own w6 wr.heap.size (.slice A6 (bl ++ [k]).length c6) (upI (bl ++ [k])) := by rw [List.length_append]; exact o6
            have hcall := HIH.out (bl ++ [k]) (by simp; omega) A1 A2 A6 c1 B1 c2 B2 c6 wr.heap.size w6 R1 R2 o6' (by omega) (by omega) hz6
            rw [List.length_append, List.length_singleton] at hcall
            clear hg6 hbd o5 HB5 o6 o6' R1 R2
            go_wp2_with fail
            refine hcall.mono ?_
            rintro e w7 ⟨A7, c7, rfl, o7, hb7⟩
            have HB7 := Lib.hid (HB6.out.trans (hb7.mono (by omega)))
            have o8 := o7.mono (show lo ≤ wr.heap.size by omega)
            clear hb7 hcall HB6 o7
            cases hr : sr12 sizes lots most n (bl ++ [k]) with
            | some r =>
              rw [hr] at o8
              have HF := Lib.hid (HX.out.trans (findSome_first HNO.out hlt hr))
              clear hr
              go_wp2
              go_ret2
              rw [HF.out]
              exact ⟨A7, c7, rfl, o8, HB7.out⟩
            | none =>
              have HN2 := Lib.hid (show ∀ k', k' < k + 1 → sr12 sizes lots most n (bl ++ [k']) = none from fun k' h => by
                by_cases e : k' = k
                · subst e; exact hr
                · exact HNO.out k' (by omega))
              clear hr o8
              go_wp2
              go_roundw
              case rel => exact ⟨k + 1, hlt, by go_num, HN2, HB7⟩
              case measure => simp [intOf]; omega
          · have HF := Lib.hid (HX.out.trans (findSome_none (fun k' h => HNO.out k' (by omega))))
            have oE := Own.empty (w := wr) (lo := lo) (by omega)
            have HBE := Lib.hid (HBr.out.alloc hzr (.cells #[] 3))
            clear HIH
            go_wp2
            go_ret2
            rw [HF.out]
            exact ⟨_, 0, rfl, oE, HBE.out⟩
end Go.Proofs.Ytpnmnkdnlajfiaa
namespace Go.Proofs.Ytpnmnkdnlajfiaa
open Go.RowKit

/-- A search is asked for: all is valid, the areas are few. -/
noncomputable def srchOk (W H : Int) (xs : List Int) (color : Int) (lots : List Int) : Bool := askOk W H xs color lots && decide ((sizesX W H xs color).length ≤ 8)
noncomputable def frst (W H : Int) (xs : List Int) (color : Int) (lots : List Int) : Option (List Nat) := if srchOk W H xs color lots = true then fst12 (sizesX W H xs color) lots else none
theorem frst_no {W H : Int} {xs : List Int} {color : Int} {lots : List Int} (h : srchOk W H xs color lots = false) : frst W H xs color lots = none := if_neg (by rw [h]; decide)
theorem frst_yes {W H : Int} {xs : List Int} {color : Int} {lots : List Int} (h : srchOk W H xs color lots = true) : frst W H xs color lots = fst12 (sizesX W H xs color) lots := if_pos h
theorem srchOk_no1 {W H : Int} {xs : List Int} {color : Int} {lots : List Int} (h : askOk W H xs color lots = false) : srchOk W H xs color lots = false := by simp [srchOk, h]
theorem srchOk_eq {W H : Int} {xs : List Int} {color : Int} {lots : List Int} (h : askOk W H xs color lots = true) : srchOk W H xs color lots = decide ((sizesX W H xs color).length ≤ 8) := by simp [srchOk, h]
/-- The fewest lots: the least number of greatest lots that are enough. -/
noncomputable def fewAt (W H : Int) (xs : List Int) (color : Int) (lots : List Int) (n : Nat) : Bool := (sr12 (sizesX W H xs color) lots n (sizesX W H xs color).length []).isSome
noncomputable def fewO (W H : Int) (xs : List Int) (color : Int) (lots : List Int) : Option Nat := if srchOk W H xs color lots = true then (List.range (lots.length + 1)).find? (fewAt W H xs color lots) else none
theorem fewO_no {W H : Int} {xs : List Int} {color : Int} {lots : List Int} (h : srchOk W H xs color lots = false) : fewO W H xs color lots = none := if_neg (by rw [h]; decide)
theorem fewO_yes {W H : Int} {xs : List Int} {color : Int} {lots : List Int} (h : srchOk W H xs color lots = true) : fewO W H xs color lots = (List.range (lots.length + 1)).find? (fewAt W H xs color lots) := if_pos h
theorem find_first {f : Nat → Bool} {k : Nat} : ∀ {n : Nat}, (∀ k', k' < k → f k' = false) → k < n → f k = true → (List.range n).find? f = some k
  | 0, _, hk, _ => by omega
  | n + 1, h, hk, hr => by
    rw [List.range_succ, List.find?_append]
    by_cases e : k = n
    · subst e
      rw [List.find?_eq_none.2 (fun x hx => by rw [h x (List.mem_range.1 hx)]; decide)]
      simp [hr]
    · rw [find_first h (by omega) hr]
      rfl
theorem find_none {f : Nat → Bool} {n : Nat} (h : ∀ k, k < n → f k = false) : (List.range n).find? f = none :=
  List.find?_eq_none.2 (fun x hx => by rw [h x (List.mem_range.1 hx)]; decide)
/-- The part that both have in common: what is asked, whether the areas are few. -/
structure Ask (W H : Int) (xs : List Int) (color : Int) (lots : List Int) : Prop where
  ask : askOk W H xs color lots = true
theorem Ask.parts {W H : Int} {xs : List Int} {color : Int} {lots : List Int} (h : askOk W H xs color lots = true) : sizesOk W H xs color = true ∧ lotsB lots = true ∧ goodB W H xs = true := by
  simp only [askOk, Bool.and_eq_true] at h
  have h1 := h.1
  simp only [sizesOk, Bool.and_eq_true] at h1
  exact ⟨h.1, h.2, h1.1⟩
set_option maxRecDepth 100000 in
set_option maxHeartbeats 4000000 in
theorem specFirstAssignment_any (W H : Int) (A : Option Addr) (n c B : Nat) (xs : List Int) (color : Int) (A2 : Option Addr) (n2 c2 B2 : Nat) (lots : List Int) (w : World) (h : Rd w B A n c xs) (hB : B ≤ w.heap.size) (h2 : Rd w B2 A2 n2 c2 lots) (hB2 : B2 ≤ w.heap.size) :
    Calls Try.prog 7 #[chartV W H (.slice A n c), .int .i64 color, .slice A2 n2 c2] w (OutInts w (srL (frst W H xs color lots)) (frst W H xs color lots).isSome) := by
  cases hask : askOk W H xs color lots with
  | false =>
    have hb0 : Below w.heap.size w (w.alloc (.cells #[.int .i64 W, .int .i64 H, .slice A n c] 26)) := (Below.refl _ _).alloc (Nat.le_refl _) _
    have h' := h.alloc hB (.cells #[.int .i64 W, .int .i64 H, .slice A n c] 26)
    have h2' := h2.alloc hB2 (.cells #[.int .i64 W, .int .i64 H, .slice A n c] 26)
    have x0 := Blk.new w #[.int .i64 W, .int .i64 H, .slice A n c] 26
    have e0 := x0.cell 0
    have e1 := x0.cell 1
    have e2 := x0.cell 2
    have HX := Lib.hid (frst_no (srchOk_no1 hask))
    go_enter Try.func7, Try.ntmps7
    go_upto_region 1 with fail
    generalize w.alloc (.cells #[.int .i64 W, .int .i64 H, .slice A n c] 26) = w0 at *
    have hz0 := hb0.size
    go_wp2_with fail
    refine (l12Asked_any W H A n c B xs color A2 n2 c2 B2 lots _ h' (by omega) h2' (by omega)).mono ?_
    rintro e w1 ⟨rfl, hb1⟩
    rw [hask]
    have HB := Lib.hid (hb0.trans (hb1.mono hz0))
    have hz1 := HB.out.size
    have oE := Own.empty (w := w1) (lo := w.heap.size) hz1
    have HBE := Lib.hid (HB.out.alloc hz1 (.cells #[] 3))
    clear hb0 hb1 x0 e0 e1 e2
    go_wp2
    go_ret2
    rw [HX.out]
    exact ⟨_, 0, rfl, oE, HBE.out⟩
  | true =>
    obtain ⟨hs1, hlo, hg⟩ := Ask.parts hask
    obtain ⟨hs64, hsr⟩ := sizesX_rng (W := W) (H := H) (xs := xs) (color := color)
    obtain ⟨m, k, b, off, rfl, rfl, rfl, rfl, hm, hm8, hk1, hk8, hl, h64, hN, _⟩ := good_open hg h
    have HSO := Lib.hid (srchOk_eq hask)
    have HSX := Lib.hid (sizesX_yes hs1)
    rw [sizesX_yes hs1] at hs64 hsr
    have x0 := Cx.start (m := m) (k := k) h hB
    have h2' := h2.alloc hB2 (.cells #[.int .i64 m, .int .i64 k, .slice (some ⟨b, off, none⟩) xs.length c] 26)
    have hl6 := (lotsB_yes hlo).2.1
    clear h
    obtain ⟨S, hS⟩ : ∃ S, sizesL m xs color = S := ⟨_, rfl⟩
    have HS := Lib.hid hS
    rw [hS] at hs64 hsr HSX
    rw [HSX.out] at HSO
    clear hS
    obtain rfl := h2.len
    go_enter Try.func7, Try.ntmps7
    go_upto_region 1 with fail
    generalize w.alloc (.cells #[.int .i64 m, .int .i64 k, .slice (some ⟨b, off, none⟩) xs.length c] 26) = w0 at *
    have e0 := x0.c0
    have e1 := x0.c1
    have e2 := x0.c2
    have hz0 := x0.sz
    go_wp2_with fail
    refine (l12Asked_any m k _ _ c B xs color A2 _ c2 B2 lots _ x0.rd (by omega) h2' (by omega)).mono ?_
    rintro e w1 ⟨rfl, hb1⟩
    rw [hask]
    have x1 := x0.all hb1
    clear hb1 e0 e1 e2 x0 h2' hz0
    have e0 := x1.c0
    have e1 := x1.c1
    have e2 := x1.c2
    have hz1 := x1.sz
    go_wp2_with fail
    refine (l12Color_any m k b off c B xs color _ x1.rd (by omega) hm hm8 hk1 hk8 hl hN).mono ?_
    rintro e w2 ⟨A1, c1, rfl, oS, hb2⟩
    rw [HS.out] at oS ⊢
    have x2 := x1.all hb2
    have hz2 := x2.bel.size
    clear hb2 x1 e0 e1 e2 oS
    by_cases h8 : S.length ≤ 8
    · have hd8 : decide (8 < S.length) = false := by simp; omega
      have HX := Lib.hid (show frst m k xs color lots = fst12 S lots by rw [frst_yes (by rw [HSO.out, decide_eq_true h8]), HSX.out])
      have HSR := Lib.hid (show sr12 S lots lots.length S.length [] = fst12 S lots by
        rw [sr_eq S.length [] (by simp), if_pos (by simp [fitG, upI])]
        simp [lft12])
      have e0 := x2.c0
      have e1 := x2.c1
      have e2 := x2.c2
      have hz2' := x2.sz
      go_wp2_with fail
      refine (l12Color_any m k b off c B xs color _ x2.rd (by omega) hm hm8 hk1 hk8 hl hN).mono ?_
      rintro e w3 ⟨A3, c3, rfl, oS3, hb3⟩
      rw [HS.out] at oS3 ⊢
      have HB3 := Lib.hid (x2.all hb3).bel
      have hz3 := HB3.out.size
      clear hb3 x2 e0 e1 e2
      have oE := Own.empty (w := w3) (lo := w.heap.size) hz3
      have oS4 := oS3.alloc (.cells #[] 3)
      have h24 := (h2.all HB3.out hB2).alloc (by omega) (.cells #[] 3)
      have HB4 := Lib.hid (HB3.out.alloc hz3 (.cells #[] 3))
      obtain ⟨P, hP⟩ : ∃ P, w3.heap.size = P := ⟨_, rfl⟩
      have hz4 : (w3.alloc (.cells #[] 3)).heap.size = P + 1 := by simp; omega
      rw [hP] at oE
      have hPw : w.heap.size ≤ P := by omega
      have hcall := l12Search_any S lots lots.length hlo hs64 hsr S.length [] (by simp) A3 A2 (some ⟨P, 0, none⟩) c3 _ c2 B2 0 w.heap.size _ oS4.rd h24 oE (Nat.le_refl _) (by omega) (by omega)
      clear oS3 HB3
      go_wp2_with fail
      generalize w3.alloc (.cells #[] 3) = W4 at *
      refine hcall.mono ?_
      rintro e w5 ⟨A5, c5, rfl, o5, hb5⟩
      have HB5 := Lib.hid (HB4.out.trans (hb5.mono (by omega)))
      rw [HSR.out] at o5 ⊢
      clear hb5 hcall
      go_wp2
      go_ret2
      rw [HX.out]
      exact ⟨A5, c5, rfl, o5, HB5.out⟩
    · have hd8 : decide (8 < S.length) = true := by simp; omega
      have HX := Lib.hid (frst_no (show srchOk m k xs color lots = false by rw [HSO.out, decide_eq_false h8]))
      have hb2 := x2.bel
      have oE := Own.empty (w := w2) (lo := w.heap.size) hz2
      have HBE := Lib.hid (hb2.alloc hz2 (.cells #[] 3))
      clear x2
      go_wp2
      go_ret2
      rw [HX.out]
      exact ⟨_, 0, rfl, oE, HBE.out⟩
end Go.Proofs.Ytpnmnkdnlajfiaa
