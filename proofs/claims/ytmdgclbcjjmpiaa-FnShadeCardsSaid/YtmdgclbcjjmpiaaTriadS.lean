/- The walk of the model's TriadsOf. No condition. -/
import Derived.Test.YtmdgclbcjjmpiaaTriadI
import Derived.RegionTactic
import Derived.BigRegion
import Derived.Deep.RegionLaw
namespace Go.Proofs.Ytmdgclbcjjmpiaa
open Go.RowKit

theorem l3Apart_eq (a b c : Int) (w : World) (ha : -100 ≤ a ∧ a ≤ 100) (hb : -100 ≤ b ∧ b ≤ 100) (h : max (a - b) (b - a) = c) : Calls Try.prog 40 #[.int .i64 a, .int .i64 b] w fun e w' => e = .returned (.int .i64 c) ∧ w = w' := h ▸ l3Apart_any a b w ha hb
theorem far_yes {wi F : Int} {a b : ShadeR} (h : max (gapI a.f2 b.f2 - 8) (8 - gapI a.f2 b.f2) = F) (ht : thirdB wi a b = true) : F ≤ wi := by rw [third_far, decide_eq_true_eq, h] at ht; exact ht
theorem far_no {wi F : Int} {a b : ShadeR} (h : max (gapI a.f2 b.f2 - 8) (8 - gapI a.f2 b.f2) = F) (ht : thirdB wi a b = false) : ¬ F ≤ wi := by rw [third_far, decide_eq_false_iff_not, h] at ht; exact ht

set_option maxRecDepth 100000 in
set_option maxHeartbeats 4000000 in
theorem specTriadsOf_any (A : Option Addr) (n c B : Nat) (xs : List ShadeR) (wi : Int) (w : World) (h : RdF shadeF w B A n c xs) (hB : B ≤ w.heap.size) :
    Calls Try.prog 15 #[.slice A n c, .int .i64 wi] w (OutIntss w (triadX xs wi) (triadOk xs wi)) := by
  have hn := h.len_lt
  have hcap := h.cap
  have hmax := h.max
  unfold maxLen at hmax
  obtain rfl := h.len
  have h0 := h.alloc hB (.cells #[] 48)
  have hb0 := (Below.refl w.heap.size w).alloc (Nat.le_refl _) (.cells #[] 48)
  have hB0 : B ≤ (w.alloc (.cells #[] 48)).heap.size := by simp; omega
  have o0 := Own2.empty (w := w) (lo := w.heap.size) (Nat.le_refl _)
  by_cases h1 : cardB xs = true
  rotate_left
  · have h1' := not_false h1
    have H := Lib.hid (triadOk_no1 (wi := wi) h1')
    go_enter Try.func15, Try.ntmps15
    go_wp2_with fail
    refine (l3Good_any A xs.length c B xs _ h0 hB0).mono ?_
    rintro e w1 ⟨rfl, hb⟩
    go_wp2_with fail
    go_ret2
    rw [H.out.1, H.out.2]
    exact ⟨_, 0, rfl, o0.all hb, hb0.trans (hb.mono (by simp))⟩
  by_cases h2 : inB wi 0 4 = true
  rotate_left
  · have h2' := not_false h2
    have H := Lib.hid (triadOk_no2 (xs := xs) h2')
    go_enter Try.func15, Try.ntmps15
    go_wp2_with fail
    refine (l3Good_any A xs.length c B xs _ h0 hB0).mono ?_
    rintro e w1 ⟨rfl, hb⟩
    go_wp2_with ((go_at_call 36; (with_reducible refine (l1In_any _ _ _ _).mono ?_); rintro e w' ⟨rfl, rfl⟩))
    go_ret2
    rw [H.out.1, H.out.2]
    exact ⟨_, 0, rfl, o0.all hb, hb0.trans (hb.mono (by simp))⟩
  have hw04 : 0 ≤ wi ∧ wi ≤ 4 := inB_yes h2
  have hl10 : xs.length ≤ 10 := (cardB_of h1).1
  have hRes := Lib.hid (triadOk_yes h1 h2)
  have HC1 := Lib.hid h1
  obtain ⟨TOT, hTOT⟩ : ∃ TOT, iRows wi xs = TOT := ⟨_, rfl⟩
  have hTl : TOT.length ≤ 1000 := by rw [← hTOT]; exact Nat.le_trans (iRows_len wi xs xs.length (Nat.le_refl _)).1 (ten3 hl10)
  have HTL := Lib.hid hTl
  have HT0 : Hid (iRows wi xs = TOT) := hTOT
  clear hTl hTOT
  go_enter Try.func15, Try.ntmps15
  go_wp2_with fail
  refine (l3Good_any A xs.length c B xs _ h0 hB0).mono ?_
  rintro e w1 ⟨rfl, hb⟩
  go_wp2_with ((go_at_call 36; (with_reducible refine (l1In_any _ _ _ _).mono ?_); rintro e w' ⟨rfl, rfl⟩))
  clear h1 h2
  have HB1 := Lib.hid (hb0.trans (hb.mono (by simp)))
  have o1 := o0.all hb
  clear hb hb0 h0 hB0 o0
  go_loopw [6, 7] (fun out i wr => ∃ (k : Nat) (A' : Option Addr) (c' : Nat) (acc : List (List Int)), k ≤ xs.length ∧ i = .int .i64 k ∧ out = .slice A' acc.length c' ∧ Hid (acc ++ iRows wi (xs.drop k) = TOT) ∧
      Own2 wr w.heap.size (.slice A' acc.length c') acc ∧ Hid (Below w.heap.size w wr)) (fun _ i _ => xs.length - (intOf i).toNat)
  case atStart => exact ⟨0, _, 0, [], Nat.zero_le _, rfl, rfl, HT0, o1, HB1⟩
  case round =>
    obtain ⟨i, A6, c6, acc, hi, rfl, rfl, HACC, ho, HB⟩ := hrel
    by_cases hlt : i < xs.length
    · obtain ⟨a, ha⟩ : ∃ a, xs[i]? = some a := ⟨_, List.getElem?_eq_getElem hlt⟩
      have Ha := Lib.hid ha
      have hfa := card_fine HC1.out ha
      have HA1 : Hid (acc ++ (jRows wi a (xs.drop (i + 1)) ++ iRows wi (xs.drop (i + 1))) = TOT) := by rw [← iRows_at ha]; exact HACC.out
      obtain ⟨R1, hR1⟩ : ∃ R1, iRows wi (xs.drop (i + 1)) = R1 := ⟨_, rfl⟩
      rw [hR1] at HA1
      have HR1 := Lib.hid hR1
      clear hR1 ha HACC
      go_wp2
      go_loopw [6, 8] (fun out j wr => ∃ (k : Nat) (A' : Option Addr) (c' : Nat) (acc : List (List Int)), k ≤ xs.length ∧ j = .int .i64 k ∧ out = .slice A' acc.length c' ∧ Hid (acc ++ (jRows wi a (xs.drop k) ++ R1) = TOT) ∧
          Own2 wr w.heap.size (.slice A' acc.length c') acc ∧ Hid (Below w.heap.size w wr)) (fun _ j _ => xs.length - (intOf j).toNat)
      case atStart => exact ⟨i + 1, A6, c6, acc, hlt, by go_num, rfl, HA1, ho, HB⟩
      case round =>
        clear HB ho
        obtain ⟨j, A7, c7, acc2, hj, rfl, rfl, HACC2, ho, HB⟩ := hrel
        by_cases hlt2 : j < xs.length
        · obtain ⟨b, hb⟩ : ∃ b, xs[j]? = some b := ⟨_, List.getElem?_eq_getElem hlt2⟩
          have Hb := Lib.hid hb
          have hfb := card_fine HC1.out hb
          have HA2 : Hid (acc2 ++ (kRows wi a b (xs.drop (j + 1)) ++ (jRows wi a (xs.drop (j + 1)) ++ R1)) = TOT) := by
            have := HACC2.out
            rw [jRows_at hb, List.append_assoc] at this
            exact this
          obtain ⟨R2, hR2⟩ : ∃ R2, jRows wi a (xs.drop (j + 1)) ++ R1 = R2 := ⟨_, rfl⟩
          rw [hR2] at HA2
          have HR2 := Lib.hid hR2
          clear hR2 hb HACC2
          go_wp2
          go_loopw [6, 9] (fun out jj wr => ∃ (k : Nat) (A' : Option Addr) (c' : Nat) (acc : List (List Int)), k ≤ xs.length ∧ jj = .int .i64 k ∧ out = .slice A' acc.length c' ∧ Hid (acc ++ (kRows wi a b (xs.drop k) ++ R2) = TOT) ∧
              Own2 wr w.heap.size (.slice A' acc.length c') acc ∧ Hid (Below w.heap.size w wr)) (fun _ jj _ => xs.length - (intOf jj).toNat)
          case atStart => exact ⟨j + 1, A7, c7, acc2, hlt2, by go_num, rfl, HA2, ho, HB⟩
          case round =>
            clear HB ho
            obtain ⟨k, A8, c8, acc3, hk, rfl, rfl, HACC3, ho, HB⟩ := hrel
            by_cases hlt3 : k < xs.length
            · obtain ⟨s, hs⟩ : ∃ s, xs[k]? = some s := ⟨_, List.getElem?_eq_getElem hlt3⟩
              have Hs := Lib.hid hs
              have hfs := card_fine HC1.out hs
              clear hs
              have hRw := h.below HB.out hB
              obtain ⟨b_, off_, a', e_, hb_, oka, HXa, ga0, _, ga2, _, _⟩ := ShadeR_at (F := shadeF) rfl (fun _ => rfl) (fun _ => rfl) hRw hlt
              cases e_
              obtain rfl : a = a' := Option.some.inj (Ha.out.symm.trans HXa.out)
              clear HXa
              obtain ⟨b_, off_, b', e_, hb_, okb, HXb, gb0, _, gb2, _, _⟩ := ShadeR_at (F := shadeF) rfl (fun _ => rfl) (fun _ => rfl) hRw hlt2
              cases e_
              obtain rfl : b = b' := Option.some.inj (Hb.out.symm.trans HXb.out)
              clear HXb
              obtain ⟨b_, off_, s', e_, hb_, oks, HXs, gs0, _, gs2, _, _⟩ := ShadeR_at (F := shadeF) rfl (fun _ => rfl) (fun _ => rfl) hRw hlt3
              cases e_
              obtain rfl : s = s' := Option.some.inj (Hs.out.symm.trans HXs.out)
              clear HXs
              have hi0 : (0 : Int) ≤ (i : Int) := by omega
              have hin : (i : Int) < (xs.length : Int) := by omega
              have hj0 : (0 : Int) ≤ (j : Int) := by omega
              have hjn : (j : Int) < (xs.length : Int) := by omega
              have hk0 : (0 : Int) ≤ (k : Int) := by omega
              have hkn : (k : Int) < (xs.length : Int) := by omega
              have hdr : Below wr.heap.size wr wr.drew := ⟨rfl, rfl, rfl, Nat.le_refl _, fun _ _ => rfl⟩
              replace ho := ho.all hdr
              have hzr := HB.out.size
              replace HB := Lib.hid (HB.out.trans (hdr.mono hzr))
              have fa0 : wr.drew.cell? ⟨b_, off_ + i * 5, none⟩ = some (.int .i64 a.f0) := ga0
              have fb0 : wr.drew.cell? ⟨b_, off_ + j * 5, none⟩ = some (.int .i64 b.f0) := gb0
              have fs0 : wr.drew.cell? ⟨b_, off_ + k * 5, none⟩ = some (.int .i64 s.f0) := gs0
              have ia0 : I64 a.f0 := oka.1
              have ib0 : I64 b.f0 := okb.1
              have is0 : I64 s.f0 := oks.1
              have ha1 : Step a.f2 := hfa.1
              have hb1 : Step b.f2 := hfb.1
              have hs1 : Step s.f2 := hfs.1
              clear hdr ga0 gb0 gs0 hRw
              go_wp2
              go_region
              all_goals
                generalize wr.drew = V at *
                have q1 : -100 ≤ gapI a.f2 b.f2 ∧ gapI a.f2 b.f2 ≤ 100 := by have := gapI_bd a.f2 b.f2; omega
                have q2 : -100 ≤ gapI b.f2 s.f2 ∧ gapI b.f2 s.f2 ≤ 100 := by have := gapI_bd b.f2 s.f2; omega
                have q3 : -100 ≤ gapI a.f2 s.f2 ∧ gapI a.f2 s.f2 ≤ 100 := by have := gapI_bd a.f2 s.f2; omega
                have q8 : -100 ≤ (8 : Int) ∧ (8 : Int) ≤ 100 := by omega
                obtain ⟨F1, HF1⟩ : ∃ F, Hid (max (gapI a.f2 b.f2 - 8) (8 - gapI a.f2 b.f2) = F) := ⟨_, rfl⟩
                obtain ⟨F2, HF2⟩ : ∃ F, Hid (max (gapI b.f2 s.f2 - 8) (8 - gapI b.f2 s.f2) = F) := ⟨_, rfl⟩
                obtain ⟨F3, HF3⟩ : ∃ F, Hid (max (gapI a.f2 s.f2 - 8) (8 - gapI a.f2 s.f2) = F) := ⟨_, rfl⟩
                clear ga2 gb2 gs2
                by_cases t1 : thirdB wi a b = true
                rotate_left
                · have u1 := far_no HF1.out (not_false t1)
                  go_wp2_with (first | (go_at_call 41; (with_reducible refine (l3Gap_any _ _ _ ha1 hb1).mono ?_); rintro e w' ⟨rfl, rfl⟩) | (go_at_call 41; (with_reducible refine (l3Gap_any _ _ _ hb1 hs1).mono ?_); rintro e w' ⟨rfl, rfl⟩) | (go_at_call 41; (with_reducible refine (l3Gap_any _ _ _ ha1 hs1).mono ?_); rintro e w' ⟨rfl, rfl⟩) | (go_at_call 40; (with_reducible refine (l3Apart_eq _ _ _ _ q1 q8 HF1.out).mono ?_); rintro e w' ⟨rfl, rfl⟩) | (go_at_call 40; (with_reducible refine (l3Apart_eq _ _ _ _ q2 q8 HF2.out).mono ?_); rintro e w' ⟨rfl, rfl⟩) | (go_at_call 40; (with_reducible refine (l3Apart_eq _ _ _ _ q3 q8 HF3.out).mono ?_); rintro e w' ⟨rfl, rfl⟩))
                  go_roundw
                  case rel => exact ⟨k + 1, A8, c8, acc3, by omega, by go_num, rfl, Lib.hid (kRows_no Hs.out (no1 (not_false t1)) HACC3.out), ho, HB⟩
                  case measure => simp [intOf]; omega
                have u1 := far_yes HF1.out t1
                by_cases t2 : thirdB wi b s = true
                rotate_left
                · have u2 := far_no HF2.out (not_false t2)
                  go_wp2_with (first | (go_at_call 41; (with_reducible refine (l3Gap_any _ _ _ ha1 hb1).mono ?_); rintro e w' ⟨rfl, rfl⟩) | (go_at_call 41; (with_reducible refine (l3Gap_any _ _ _ hb1 hs1).mono ?_); rintro e w' ⟨rfl, rfl⟩) | (go_at_call 41; (with_reducible refine (l3Gap_any _ _ _ ha1 hs1).mono ?_); rintro e w' ⟨rfl, rfl⟩) | (go_at_call 40; (with_reducible refine (l3Apart_eq _ _ _ _ q1 q8 HF1.out).mono ?_); rintro e w' ⟨rfl, rfl⟩) | (go_at_call 40; (with_reducible refine (l3Apart_eq _ _ _ _ q2 q8 HF2.out).mono ?_); rintro e w' ⟨rfl, rfl⟩) | (go_at_call 40; (with_reducible refine (l3Apart_eq _ _ _ _ q3 q8 HF3.out).mono ?_); rintro e w' ⟨rfl, rfl⟩))
                  go_roundw
                  case rel => exact ⟨k + 1, A8, c8, acc3, by omega, by go_num, rfl, Lib.hid (kRows_no Hs.out (no3 (not_false t2)) HACC3.out), ho, HB⟩
                  case measure => simp [intOf]; omega
                have u2 := far_yes HF2.out t2
                by_cases t3 : thirdB wi a s = true
                rotate_left
                · have u3 := far_no HF3.out (not_false t3)
                  go_wp2_with (first | (go_at_call 41; (with_reducible refine (l3Gap_any _ _ _ ha1 hb1).mono ?_); rintro e w' ⟨rfl, rfl⟩) | (go_at_call 41; (with_reducible refine (l3Gap_any _ _ _ hb1 hs1).mono ?_); rintro e w' ⟨rfl, rfl⟩) | (go_at_call 41; (with_reducible refine (l3Gap_any _ _ _ ha1 hs1).mono ?_); rintro e w' ⟨rfl, rfl⟩) | (go_at_call 40; (with_reducible refine (l3Apart_eq _ _ _ _ q1 q8 HF1.out).mono ?_); rintro e w' ⟨rfl, rfl⟩) | (go_at_call 40; (with_reducible refine (l3Apart_eq _ _ _ _ q2 q8 HF2.out).mono ?_); rintro e w' ⟨rfl, rfl⟩) | (go_at_call 40; (with_reducible refine (l3Apart_eq _ _ _ _ q3 q8 HF3.out).mono ?_); rintro e w' ⟨rfl, rfl⟩))
                  go_roundw
                  case rel => exact ⟨k + 1, A8, c8, acc3, by omega, by go_num, rfl, Lib.hid (kRows_no Hs.out (no2 (not_false t3)) HACC3.out), ho, HB⟩
                  case measure => simp [intOf]; omega
                have u3 := far_yes HF3.out t3
                have HYES := Lib.hid (kRows_yes Hs.out t1 t3 t2 HACC3.out)
                have hal : acc3.length ≤ 1048576 := Nat.le_trans (tri_len HACC3.out HTL.out) (by decide)
                have hdr : Below V.heap.size V V.drew := ⟨rfl, rfl, rfl, Nat.le_refl _, fun _ _ => rfl⟩
                have hzV := HB.out.size
                have o2 := ho.all hdr
                have HB2 := Lib.hid (HB.out.trans (hdr.mono hzV))
                have hzw : w.heap.size ≤ V.drew.heap.size := hzV
                obtain ⟨_, _, _, hbd⟩ := o2.form
                clear hdr
                go_wp2_with (first | (go_at_call 41; (with_reducible refine (l3Gap_any _ _ _ ha1 hb1).mono ?_); rintro e w' ⟨rfl, rfl⟩) | (go_at_call 41; (with_reducible refine (l3Gap_any _ _ _ hb1 hs1).mono ?_); rintro e w' ⟨rfl, rfl⟩) | (go_at_call 41; (with_reducible refine (l3Gap_any _ _ _ ha1 hs1).mono ?_); rintro e w' ⟨rfl, rfl⟩) | (go_at_call 40; (with_reducible refine (l3Apart_eq _ _ _ _ q1 q8 HF1.out).mono ?_); rintro e w' ⟨rfl, rfl⟩) | (go_at_call 40; (with_reducible refine (l3Apart_eq _ _ _ _ q2 q8 HF2.out).mono ?_); rintro e w' ⟨rfl, rfl⟩) | (go_at_call 40; (with_reducible refine (l3Apart_eq _ _ _ _ q3 q8 HF3.out).mono ?_); rintro e w' ⟨rfl, rfl⟩))
                go_region_law (refine step_push3 V.drew rfl (.tmp 82) (.tmp 99) 32 rfl Try.underlying32 info_ints w.heap.size acc3.length _ acc3 a.f0 b.f0 s.f0 rfl rfl rfl o2 hal ia0 ib0 is0 hzw ?_; intro A5 c5 w5 o5 hg5; have HB5 := Lib.hid (HB2.out.grown hg5 hzw (fun q hq => (hbd q hq).1)))
                all_goals
                  go_wp2
                  go_roundw
                  case rel => exact ⟨k + 1, A5, c5, acc3 ++ [[a.f0, b.f0, s.f0]], by omega, by go_num, by rw [List.length_append]; rfl, HYES, by rw [List.length_append]; exact o5, HB5⟩
                  case measure => simp [intOf]; omega
            · have HE : Hid (acc3 ++ (jRows wi a (xs.drop (j + 1)) ++ R1) = TOT) := by
                have := HACC3.out
                rw [kRows_none wi a b (by omega), List.nil_append, ← HR2.out] at this
                exact this
              go_wp2
              go_roundw
              case rel => exact ⟨j + 1, A8, c8, acc3, by omega, by go_num, rfl, HE, ho, HB⟩
              case measure => simp [intOf]; omega
        · have HE : Hid (acc2 ++ iRows wi (xs.drop (i + 1)) = TOT) := by
            have := HACC2.out
            rw [jRows_none wi a (by omega), List.nil_append, ← HR1.out] at this
            exact this
          go_wp2
          go_roundw
          case rel => exact ⟨i + 1, A7, c7, acc2, by omega, by go_num, rfl, HE, ho, HB⟩
          case measure => simp [intOf]; omega
    · have HE : acc = TOT := by
        have := HACC.out
        rw [iRows_none wi (by omega), List.append_nil] at this
        exact this
      subst HE
      go_wp2
      go_ret2
      rw [hRes.out.1, hRes.out.2, HT0.out]
      exact ⟨A6, c6, rfl, ho, HB.out⟩
end Go.Proofs.Ytmdgclbcjjmpiaa
