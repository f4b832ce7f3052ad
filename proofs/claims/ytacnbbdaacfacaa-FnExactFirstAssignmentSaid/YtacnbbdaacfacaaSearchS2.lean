/- The walk of the model's l12Search. Condition: the lots are valid, the sizes those of a chart. -/
import Derived.Test.YtacnbbdaacfacaaSearchS
namespace Go.Proofs.Ytacnbbdaacfacaa
open Go.RowKit

def srL (o : Option (List Nat)) : List Int := match o with | some y => upI y | none => []
def SrOut (w : World) (lo : Nat) (o : Option (List Nat)) (e : Ending) (w' : World) : Prop :=
  ∃ A c, e = .returned (.tuple #[.slice A (srL o).length c, .bool o.isSome]) ∧ Own w' lo (.slice A (srL o).length c) (srL o) ∧ Below w.heap.size w w'
theorem findSome_none {f : Nat → Option (List Nat)} {n : Nat} (h : ∀ k, k < n → f k = none) : (List.range n).findSome? f = none := by
  rw [List.findSome?_eq_none_iff]
  exact fun x hx => h x (List.mem_range.1 hx)
theorem findSome_first {f : Nat → Option (List Nat)} {k : Nat} {r : List Nat} : ∀ {n : Nat}, (∀ k', k' < k → f k' = none) → k < n → f k = some r → (List.range n).findSome? f = some r
  | 0, _, hk, _ => by omega
  | n + 1, h, hk, hr => by
    rw [List.range_succ, List.findSome?_append]
    by_cases e : k = n
    · subst e
      rw [findSome_none h]
      simp [hr]
    · rw [findSome_first h (by omega) hr]
      rfl
set_option maxRecDepth 100000 in
set_option maxHeartbeats 4000000 in
theorem l12Search_any (sizes lots : List Int) (most : Nat) (hlo : lotsB lots = true) (hs : sizes.length ≤ 64) (hsr : ∀ y ∈ sizes, 0 ≤ y ∧ y ≤ 64) :
    ∀ (n : Nat) (bl : List Nat), bl.length + n = sizes.length → ∀ (A1 A2 A4 : Option Addr) (c1 B1 c2 B2 c4 lo : Nat) (w : World), Rd w B1 A1 sizes.length c1 sizes → Rd w B2 A2 lots.length c2 lots → Own w lo (.slice A4 bl.length c4) (upI bl) → B1 ≤ w.heap.size → B2 ≤ w.heap.size → lo ≤ w.heap.size →
      Calls Try.prog 60 #[.slice A1 sizes.length c1, .slice A2 lots.length c2, .int .i64 most, .slice A4 bl.length c4] w (SrOut w lo (sr12 sizes lots most n bl)) := by
  intro n
  induction n with
  | zero =>
    intro bl hn A1 A2 A4 c1 B1 c2 B2 c4 lo w h1 h2 h4 hB1 hB2 hlw
    obtain ⟨f, hf⟩ : ∃ f, fitG sizes lots (upI bl) = f := ⟨_, rfl⟩
    have hbl : bl.length ≤ 1000 := by omega
    have hlb : bl.length ≤ 64 := by omega
    have heq : ((bl.length : Int) == (sizes.length : Int)) = true := by simp; omega
    go_enter Try.func60, Try.ntmps60
    go_wp2_with fail
    refine (l12Fits_any A1 A2 A4 _ c1 B1 _ c2 B2 bl.length c4 w.heap.size sizes lots (upI bl) w h1 h2 h4.rd hB1 hB2 (Nat.le_refl _) hlo hs hsr).mono ?_
    rintro e w1 ⟨rfl, hb1⟩
    rw [hf]
    have o1 := h4.all hb1
    have HB := Lib.hid hb1
    have hz1 := hb1.size
    clear hb1
    cases f with
    | false =>
      have HX := Lib.hid (show sr12 sizes lots most 0 bl = none by rw [sr12, if_neg (fun h => by rw [hf] at h; exact absurd h.1 (by decide))])
      have oE := Own.empty (w := w1) (lo := lo) (by omega)
      have HBE := Lib.hid (HB.out.alloc hz1 (.cells #[] 3))
      clear hf heq
      go_wp2
      go_ret2
      rw [HX.out]
      exact ⟨_, 0, rfl, oE, HBE.out⟩
    | true =>
      go_wp2_with fail
      refine (l12Different_any A4 c4 w1.heap.size bl w1 o1.rd (Nat.le_refl _) hbl).mono ?_
      rintro e w2 ⟨rfl, hb2⟩
      have HB2 := Lib.hid (HB.out.trans (hb2.mono hz1))
      have o2 := o1.all hb2
      have hz2 := HB2.out.size
      have hdl : dif12 bl ≤ bl.length := dif_le (fun x hx => hx)
      obtain ⟨d, hd⟩ : ∃ d, dif12 bl = d := ⟨_, rfl⟩
      rw [hd] at hdl ⊢
      clear hb2 o1
      by_cases hgt : most < d
      · have HX := Lib.hid (show sr12 sizes lots most 0 bl = none by rw [sr12, if_neg (fun h => by rw [hd] at h; omega)])
        have oE := Own.empty (w := w2) (lo := lo) (by omega)
        have HBE := Lib.hid (HB2.out.alloc hz2 (.cells #[] 3))
        clear hf heq hd
        go_wp2
        go_ret2
        rw [HX.out]
        exact ⟨_, 0, rfl, oE, HBE.out⟩
      · have HX := Lib.hid (show sr12 sizes lots most 0 bl = some bl by rw [sr12, if_pos ⟨hf, by omega⟩])
        have HL := Lib.hid (upI_len bl)
        clear hf hd
        go_wp2
        go_ret2
        rw [HX.out]
        refine ⟨A4, c4, ?_, ?_, HB2.out⟩
        · simp only [srL]; rw [HL.out]; rfl
        · simp only [srL]; rw [HL.out]; exact o2
  | succ n ih =>
    intro bl hn A1 A2 A4 c1 B1 c2 B2 c4 lo w h1 h2 h4 hB1 hB2 hlw
    obtain ⟨f, hf⟩ : ∃ f, fitG sizes lots (upI bl) = f := ⟨_, rfl⟩
    have hbl : bl.length ≤ 1000 := by omega
    have hlb : bl.length ≤ 64 := by omega
    have heq : ((bl.length : Int) == (sizes.length : Int)) = false := by simp; omega
    have hl6 := (lotsB_yes hlo).2.1
    go_enter Try.func60, Try.ntmps60
    go_wp2_with fail
    refine (l12Fits_any A1 A2 A4 _ c1 B1 _ c2 B2 bl.length c4 w.heap.size sizes lots (upI bl) w h1 h2 h4.rd hB1 hB2 (Nat.le_refl _) hlo hs hsr).mono ?_
    rintro e w1 ⟨rfl, hb1⟩
    rw [hf]
    have o1 := h4.all hb1
    have HB := Lib.hid hb1
    have hz1 := hb1.size
    clear hb1
    cases f with
    | false =>
      have HX := Lib.hid (show sr12 sizes lots most (n + 1) bl = none by rw [sr12, if_neg (fun h => by rw [hf] at h; exact absurd h.1 (by decide))])
      have oE := Own.empty (w := w1) (lo := lo) (by omega)
      have HBE := Lib.hid (HB.out.alloc hz1 (.cells #[] 3))
      clear hf heq ih
      go_wp2
      go_ret2
      rw [HX.out]
      exact ⟨_, 0, rfl, oE, HBE.out⟩
    | true =>
      go_wp2_with fail
      refine (l12Different_any A4 c4 w1.heap.size bl w1 o1.rd (Nat.le_refl _) hbl).mono ?_
      rintro e w2 ⟨rfl, hb2⟩
      have HB2 := Lib.hid (HB.out.trans (hb2.mono hz1))
      have o2 := o1.all hb2
      have hz2 := HB2.out.size
      have hdl : dif12 bl ≤ bl.length := dif_le (fun x hx => hx)
      obtain ⟨d, hd⟩ : ∃ d, dif12 bl = d := ⟨_, rfl⟩
      rw [hd] at hdl ⊢
      clear hb2 o1
      by_cases hgt : most < d
      · have HX := Lib.hid (show sr12 sizes lots most (n + 1) bl = none by rw [sr12, if_neg (fun h => by rw [hd] at h; omega)])
        have oE := Own.empty (w := w2) (lo := lo) (by omega)
        have HBE := Lib.hid (HB2.out.alloc hz2 (.cells #[] 3))
        clear hf heq hd ih
        go_wp2
        go_ret2
        rw [HX.out]
        exact ⟨_, 0, rfl, oE, HBE.out⟩
      · have HX := Lib.hid (show sr12 sizes lots most (n + 1) bl = (List.range lots.length).findSome? fun k => sr12 sizes lots most n (bl ++ [k]) by rw [sr12, if_pos ⟨hf, by omega⟩])
        have HIH := Lib.hid ih
        clear hf hd ih
        go_wp2
        go_loopw [10] (fun s10 wr => ∃ k : Nat, k ≤ lots.length ∧ s10 = .int .i64 k ∧ Hid (∀ k', k' < k → sr12 sizes lots most n (bl ++ [k']) = none) ∧ Hid (Below w.heap.size w wr)) (fun s10 _ => lots.length - (intOf s10).toNat)
        case atStart => exact ⟨0, Nat.zero_le _, rfl, Lib.hid (fun k' h => by omega), HB2⟩
        case round =>
          obtain ⟨k, hk, rfl, HNO, HBr⟩ := hrel
          have hzr := HBr.out.size
          by_cases hlt : k < lots.length
          · have hb20 : bl.length ≤ 1048576 := by omega
            have oR := h4.all HBr.out
            go_wp2_with fail
            refine (l1Own_any A4 bl.length c4 wr.heap.size (upI bl) wr oR.rd (Nat.le_refl _) hb20).mono ?_
            rintro e w5 ⟨A5, c5, rfl, o5, hb5⟩
            have HB5 := Lib.hid (HBr.out.trans (hb5.mono hzr))
            have hz5 := hb5.size
            rw [upI_len] at o5 ⊢
            have hbd := o5.bd
            have hb30 : bl.length ≤ 1073741824 := by omega
            clear hb5 oR
            go_wp2_with (at_builtin; refine wpList_append_one_at w5 rfl (.tmp 42) (.tmp 44) 22 rfl Try.underlying22 info_int wr.heap.size bl.length _ (upI bl) (k : Int) (upI_len bl) rfl rfl o5 hb30 ⟨by omega, by omega⟩ hz5 ?_)
            intro A6 c6 w6 o6 hg6 _
            have HB6 := Lib.hid (HB5.out.grown hg6 (Nat.le_trans hzr hz5) (fun q hq => Nat.le_trans hzr (hbd q hq).1))
            have hz6 : wr.heap.size ≤ w6.heap.size := Nat.le_trans hz5 hg6.size
            rw [← upI_app] at o6
            have R1 := h1.all HB6.out hB1
            have R2 := h2.all HB6.out hB2
            have o6' : Own w6 wr.heap.size (.slice A6 (bl ++ [k]).length c6) (upI (bl ++ [k])) := by rw [List.length_append]; exact o6
            have hcall := HIH.out (bl ++ [k]) (by simp; omega) A1 A2 A6 c1 B1 c2 B2 c6 wr.heap.size w6 R1 R2 o6' (by omega) (by omega) hz6
            rw [List.length_append, List.length_singleton] at hcall
            clear hg6 hbd o5 HB5 o6 o6' R1 R2
            go_wp2_with fail
            refine hcall.mono ?_
            rintro e w7 ⟨A7, c7, rfl, o7, hb7⟩
            have HB7 := Lib.hid (HB6.out.trans (hb7.mono (by omega)))
            have o8 := o7.mono (show lo ≤ wr.heap.size by omega)
            clear hb7 hcall HB6 o7
            cases hr : sr12 sizes lots most n (bl ++ [k]) with
            | some r =>
              rw [hr] at o8
              have HF := Lib.hid (HX.out.trans (findSome_first HNO.out hlt hr))
              clear hr
              go_wp2
              go_ret2
              rw [HF.out]
              exact ⟨A7, c7, rfl, o8, HB7.out⟩
            | none =>
              have HN2 := Lib.hid (show ∀ k', k' < k + 1 → sr12 sizes lots most n (bl ++ [k']) = none from fun k' h => by
                by_cases e : k' = k
                · subst e; exact hr
                · exact HNO.out k' (by omega))
              clear hr o8
              go_wp2
              go_roundw
              case rel => exact ⟨k + 1, hlt, by go_num, HN2, HB7⟩
              case measure => simp [intOf]; omega
          · have HF := Lib.hid (HX.out.trans (findSome_none (fun k' h => HNO.out k' (by omega))))
            have oE := Own.empty (w := wr) (lo := lo) (by omega)
            have HBE := Lib.hid (HBr.out.alloc hzr (.cells #[] 3))
            clear HIH
            go_wp2
            go_ret2
            rw [HF.out]
            exact ⟨_, 0, rfl, oE, HBE.out⟩
end Go.Proofs.Ytacnbbdaacfacaa
