/- The walk of the model's FadedApart. No condition. -/
import Derived.Test.YtmdgclbcjjmpiaaPairMath
import Derived.Test.YtmdgclbcjjmpiaaTriadS
import Derived.Test.YtmdgclbcjjmpiaaApartI
import Derived.Deep.CutRange
namespace Go.Proofs.Ytmdgclbcjjmpiaa
open Go.RowKit

theorem l3Years_any (x : Int) (w : World) : Calls Try.prog 35 #[.int .i64 x] w fun e w' => e = .returned (.bool (inB x 0 200)) ∧ w = w' := by
  go_enter Try.func35, Try.ntmps35
  go_wp2_with (go_at_call 36; (with_reducible refine (l1In_any _ _ _ _).mono ?_); rintro e w' ⟨rfl, rfl⟩)
  go_ret
  exact ⟨rfl, rfl⟩
/-- Rows of rows of numbers while a shade's block is written. -/
theorem Own2.apart {w : World} {lo P i : Nat} {v : Value} {yss : List (List Int)} {cs : Array Value} (h : Own2 w lo v yss) (hx : Blk w P 30 cs) (u : Value) : Own2 (w.setCell ⟨P, i, none⟩ u) lo v yss := by
  obtain ⟨hs, h1, h2, h3, h4⟩ := h
  have hg := grown_setCell w ⟨P, i, none⟩ u
  exact ⟨hs, h1, h2.kept hg (.inr (row_ne' h2 hx (by decide))), fun j h ys hi hy => (h3 j h ys hi hy).kept hg (.inr (row_ne' (h3 j h ys hi hy).1 hx (by decide))), h4⟩
set_option maxRecDepth 100000 in
set_option maxHeartbeats 16000000 in
theorem specFadedApart_any (A : Option Addr) (n c B : Nat) (xs : List ShadeR) (ye le : Int) (w : World) (h : RdF shadeF w B A n c xs) (hB : B ≤ w.heap.size) :
    Calls Try.prog 11 #[.slice A n c, .int .i64 ye, .int .i64 le] w (OutIntss w (apartX xs ye le) (apartOk xs ye le)) := by
  have hn := h.len_lt
  have hcap := h.cap
  have hmax := h.max
  unfold maxLen at hmax
  obtain rfl := h.len
  have h0 := h.alloc hB (.cells #[] 48)
  have hb0 := (Below.refl w.heap.size w).alloc (Nat.le_refl _) (.cells #[] 48)
  have hB0 : B ≤ (w.alloc (.cells #[] 48)).heap.size := by simp; omega
  have o0 := Own2.empty (w := w) (lo := w.heap.size) (Nat.le_refl _)
  by_cases h1 : cardB xs = true
  rotate_left
  · have hno := not_false h1
    have H := Lib.hid (apart_no (xs := xs) (ye := ye) (le := le) (.inl hno))
    go_enter Try.func11, Try.ntmps11
    go_wp2_with fail
    refine (l3Good_any A xs.length c B xs _ h0 hB0).mono ?_
    rintro e w1 ⟨rfl, hb⟩
    go_wp2_with (first | (go_at_call 35; (with_reducible refine (l3Years_any _ _).mono ?_); rintro e w' ⟨rfl, rfl⟩) | (go_at_call 36; (with_reducible refine (l1In_any _ _ _ _).mono ?_); rintro e w' ⟨rfl, rfl⟩))
    go_ret2
    rw [H.out.1, H.out.2]
    exact ⟨_, 0, rfl, o0.all hb, hb0.trans (hb.mono (by simp))⟩
  by_cases h2 : inB ye 0 200 = true
  rotate_left
  · have hno := not_false h2
    have H := Lib.hid (apart_no (xs := xs) (ye := ye) (le := le) (.inr (.inl hno)))
    go_enter Try.func11, Try.ntmps11
    go_wp2_with fail
    refine (l3Good_any A xs.length c B xs _ h0 hB0).mono ?_
    rintro e w1 ⟨rfl, hb⟩
    go_wp2_with (first | (go_at_call 35; (with_reducible refine (l3Years_any _ _).mono ?_); rintro e w' ⟨rfl, rfl⟩) | (go_at_call 36; (with_reducible refine (l1In_any _ _ _ _).mono ?_); rintro e w' ⟨rfl, rfl⟩))
    go_ret2
    rw [H.out.1, H.out.2]
    exact ⟨_, 0, rfl, o0.all hb, hb0.trans (hb.mono (by simp))⟩
  by_cases h3 : inB le 0 33 = true
  rotate_left
  · have hno := not_false h3
    have H := Lib.hid (apart_no (xs := xs) (ye := ye) (le := le) (.inr (.inr hno)))
    go_enter Try.func11, Try.ntmps11
    go_wp2_with fail
    refine (l3Good_any A xs.length c B xs _ h0 hB0).mono ?_
    rintro e w1 ⟨rfl, hb⟩
    go_wp2_with (first | (go_at_call 35; (with_reducible refine (l3Years_any _ _).mono ?_); rintro e w' ⟨rfl, rfl⟩) | (go_at_call 36; (with_reducible refine (l1In_any _ _ _ _).mono ?_); rintro e w' ⟨rfl, rfl⟩))
    go_ret2
    rw [H.out.1, H.out.2]
    exact ⟨_, 0, rfl, o0.all hb, hb0.trans (hb.mono (by simp))⟩
  have hy : 0 ≤ ye ∧ ye ≤ 200 := inB_yes h2
  have hle : 0 ≤ le ∧ le ≤ 33 := inB_yes h3
  have hl10 : xs.length ≤ 10 := (cardB_of h1).1
  have hRes := Lib.hid (apart_yes h1 h2 h3)
  have HC1 := Lib.hid h1
  have HSH : Hid (∀ (k : Nat) (a : ShadeR), xs[k]? = some a → Fine a ∧ (1 ≤ a.f4 ∧ a.f4 ≤ 8)) := fun k a ha => ⟨card_fine h1 ha, (shadeB_parts ((cardB_of h1).2 k a (List.getElem?_eq_some_iff.1 ha).1 ha).1).2.2.2.2⟩
  obtain ⟨TOT, hTOT⟩ : ∃ TOT, aRows ye le xs = TOT := ⟨_, rfl⟩
  have hTl : TOT.length ≤ 1000 := by
    rw [← hTOT]
    have h2 : xs.length * xs.length ≤ 10 * 10 := Nat.mul_le_mul hl10 hl10
    exact Nat.le_trans (aRows_len ye le xs xs.length (Nat.le_refl _)).1 (by omega)
  have HTL := Lib.hid hTl
  have HT0 : Hid (aRows ye le xs = TOT) := hTOT
  clear hTl hTOT
  go_enter Try.func11, Try.ntmps11
  go_wp2_with fail
  refine (l3Good_any A xs.length c B xs _ h0 hB0).mono ?_
  rintro e w1 ⟨rfl, hb⟩
  go_wp2_with (first | (go_at_call 35; (with_reducible refine (l3Years_any _ _).mono ?_); rintro e w' ⟨rfl, rfl⟩) | (go_at_call 36; (with_reducible refine (l1In_any _ _ _ _).mono ?_); rintro e w' ⟨rfl, rfl⟩))
  clear h1 h2 h3
  have HB1 := Lib.hid (hb0.trans (hb.mono (by simp)))
  have o1 := o0.all hb
  clear hb hb0 h0 hB0 o0
  go_loopw [8, 9] (fun out i wr => ∃ (k : Nat) (A' : Option Addr) (c' : Nat) (acc : List (List Int)), k ≤ xs.length ∧ i = .int .i64 k ∧ out = .slice A' acc.length c' ∧ Hid (acc ++ aRows ye le (xs.drop k) = TOT) ∧
      Own2 wr w.heap.size (.slice A' acc.length c') acc ∧ Hid (Below w.heap.size w wr)) (fun _ i _ => xs.length - (intOf i).toNat)
  case atStart => exact ⟨0, _, 0, [], Nat.zero_le _, rfl, rfl, HT0, o1, HB1⟩
  case round =>
    obtain ⟨i, A6, c6, acc, hi, rfl, rfl, HACC, ho, HB⟩ := hrel
    by_cases hlt : i < xs.length
    · obtain ⟨a, ha⟩ : ∃ a, xs[i]? = some a := ⟨_, List.getElem?_eq_getElem hlt⟩
      have Ha := Lib.hid ha
      have HA1 : Hid (acc ++ (bRows ye le a (xs.drop (i + 1)) ++ aRows ye le (xs.drop (i + 1))) = TOT) := by rw [← aRows_at ha]; exact HACC.out
      obtain ⟨R2, hR2⟩ : ∃ R2, aRows ye le (xs.drop (i + 1)) = R2 := ⟨_, rfl⟩
      rw [hR2] at HA1
      have HR2 := Lib.hid hR2
      clear hR2 ha HACC
      go_wp2
      go_loopw [8, 10] (fun out j wr => ∃ (k : Nat) (A' : Option Addr) (c' : Nat) (acc : List (List Int)), k ≤ xs.length ∧ j = .int .i64 k ∧ out = .slice A' acc.length c' ∧ Hid (acc ++ (bRows ye le a (xs.drop k) ++ R2) = TOT) ∧
          Own2 wr w.heap.size (.slice A' acc.length c') acc ∧ Hid (Below w.heap.size w wr)) (fun _ j _ => xs.length - (intOf j).toNat)
      case atStart => exact ⟨i + 1, A6, c6, acc, hlt, by go_num, rfl, HA1, ho, HB⟩
      case round =>
        clear HB ho
        obtain ⟨k, A8, c8, acc3, hk, rfl, rfl, HACC3, ho, HB⟩ := hrel
        by_cases hlt3 : k < xs.length
        · obtain ⟨s, hs⟩ : ∃ s, xs[k]? = some s := ⟨_, List.getElem?_eq_getElem hlt3⟩
          have Hs := Lib.hid hs
          clear hs
          have hRw := h.below HB.out hB
          obtain ⟨b_, off_, a', e_, hb_, oka, HXa, ga0, ga1, ga2, ga3, ga4⟩ := ShadeR_at (F := shadeF) rfl (fun _ => rfl) (fun _ => rfl) hRw hlt
          cases e_
          obtain rfl : a = a' := Option.some.inj (Ha.out.symm.trans HXa.out)
          clear HXa
          obtain ⟨b_, off_, s', e_, hb_, oks, HXs, gs0, gs1, gs2, gs3, gs4⟩ := ShadeR_at (F := shadeF) rfl (fun _ => rfl) (fun _ => rfl) hRw hlt3
          cases e_
          obtain rfl : s = s' := Option.some.inj (Hs.out.symm.trans HXs.out)
          clear HXs
          obtain ⟨⟨ha1, ha2⟩, ha4⟩ := HSH.out i a Ha.out
          obtain ⟨⟨hs1, hs2⟩, hs4⟩ := HSH.out k s Hs.out
          have ia0 : I64 a.f0 := oka.1
          have is0 : I64 s.f0 := oks.1
          have hi0 : (0 : Int) ≤ (i : Int) := by omega
          have hin : (i : Int) < (xs.length : Int) := by omega
          have hk0 : (0 : Int) ≤ (k : Int) := by omega
          have hkn : (k : Int) < (xs.length : Int) := by omega
          have hzr := HB.out.size
          have hbw : b_ < wr.heap.size := by omega
          clear hRw
          go_upto_region 10 with fail
          go_cut [8, 11, 12] from 42 to 53 (fun t p q wx => t = .slice A8 acc3.length c8 ∧ ∃ P Q, p = .pointer (some ⟨P, 0, none⟩) ∧ q = .pointer (some ⟨Q, 0, none⟩) ∧ Blk wx P 30 #[.int .i64 a.f0, .string a.f1, .int .i64 a.f2, .int .i64 (max (a.f3 - ye / (5 * a.f4)) 0), .int .i64 a.f4] ∧ Blk wx Q 30 #[.int .i64 s.f0, .string s.f1, .int .i64 s.f2, .int .i64 (max (s.f3 - ye / (5 * s.f4)) 0), .int .i64 s.f4] ∧ Own2 wx w.heap.size (.slice A8 acc3.length c8) acc3 ∧ Below w.heap.size w wx)
          case first =>
            go_wp2
            have hdr : Below wr.heap.size wr wr.drew := ⟨rfl, rfl, rfl, Nat.le_refl _, fun _ _ => rfl⟩
            replace ho := ho.all hdr
            replace HB := Lib.hid (HB.out.trans (hdr.mono hzr))
            replace ga0 := cells_of hdr ga0 hbw
            replace ga1 := cells_of hdr ga1 hbw
            replace ga2 := cells_of hdr ga2 hbw
            replace ga3 := cells_of hdr ga3 hbw
            replace ga4 := cells_of hdr ga4 hbw
            replace gs0 := cells_of hdr gs0 hbw
            replace gs1 := cells_of hdr gs1 hbw
            replace gs2 := cells_of hdr gs2 hbw
            replace gs3 := cells_of hdr gs3 hbw
            replace gs4 := cells_of hdr gs4 hbw
            replace hbw := Nat.lt_of_lt_of_le hbw hdr.size
            clear hdr
            refine wp_region_noPanic ?_
            refine wp_region_held_drew (S := (fun w' => w'.cell? ⟨b_, off_ + i * 5, none⟩ = some (.int .i64 a.f0) ∧ w'.cell? ⟨b_, off_ + i * 5 + 1, none⟩ = some (.string a.f1) ∧ w'.cell? ⟨b_, off_ + i * 5 + 2, none⟩ = some (.int .i64 a.f2) ∧ w'.cell? ⟨b_, off_ + i * 5 + 3, none⟩ = some (.int .i64 a.f3) ∧ w'.cell? ⟨b_, off_ + i * 5 + 4, none⟩ = some (.int .i64 a.f4) ∧ w'.cell? ⟨b_, off_ + k * 5, none⟩ = some (.int .i64 s.f0) ∧ w'.cell? ⟨b_, off_ + k * 5 + 1, none⟩ = some (.string s.f1) ∧ w'.cell? ⟨b_, off_ + k * 5 + 2, none⟩ = some (.int .i64 s.f2) ∧ w'.cell? ⟨b_, off_ + k * 5 + 3, none⟩ = some (.int .i64 s.f3) ∧ w'.cell? ⟨b_, off_ + k * 5 + 4, none⟩ = some (.int .i64 s.f4))) (by kernel_rfl) (by exact ⟨ga0, ga1, ga2, ga3, ga4, gs0, gs1, gs2, gs3, gs4⟩) (fun hHeld => ?_)
            refine wpAnyH_take (i := 0) (v := ?_) rfl (by kernel_rfl) (by kernel_rfl) (by kernel_rfl) (fun _ _ _ h => h) (Or.inl ⟨by rfl, ?_⟩) (by assumption) ?_
            rotate_left
            · intro w hSw; (try dsimp only at hSw); go_simp; (try with_reducible rfl)
            (try simp only [Act.put, List.getElem_toArray, List.getElem_cons_zero, List.setIfInBounds_toArray, List.set_cons_zero, List.set_cons_succ])
            refine wpAnyH_take (i := 1) (v := ?_) rfl (by kernel_rfl) (by kernel_rfl) (by kernel_rfl) (fun _ _ _ h => h) (Or.inl ⟨by rfl, ?_⟩) (by assumption) ?_
            rotate_left
            · intro w hSw; (try dsimp only at hSw); go_simp; (try with_reducible rfl)
            (try simp only [Act.put, List.getElem_toArray, List.getElem_cons_zero, List.getElem_cons_succ, List.setIfInBounds_toArray, List.set_cons_zero, List.set_cons_succ])
            refine wpAnyH_take (i := 2) (v := ?_) rfl (by kernel_rfl) (by kernel_rfl) (by kernel_rfl) (fun _ _ _ h => h) (Or.inl ⟨by rfl, ?_⟩) (by assumption) ?_
            rotate_left
            · intro w hSw; (try dsimp only at hSw); go_simp; (try with_reducible rfl)
            (try simp only [Act.put, List.getElem_toArray, List.getElem_cons_zero, List.getElem_cons_succ, List.setIfInBounds_toArray, List.set_cons_zero, List.set_cons_succ])
            refine wpAnyH_take (i := 3) (v := ?_) rfl (by kernel_rfl) (by kernel_rfl) (by kernel_rfl) (fun _ _ _ h => h) (Or.inl ⟨by rfl, ?_⟩) (by assumption) ?_
            rotate_left
            · intro w hSw; (try dsimp only at hSw); go_simp; (try with_reducible rfl)
            (try simp only [Act.put, List.getElem_toArray, List.getElem_cons_zero, List.getElem_cons_succ, List.setIfInBounds_toArray, List.set_cons_zero, List.set_cons_succ])
            refine wpAnyH_take (i := 4) (v := ?_) rfl (by kernel_rfl) (by kernel_rfl) (by kernel_rfl) (fun _ _ _ h => h) (Or.inl ⟨by rfl, ?_⟩) (by assumption) ?_
            rotate_left
            · intro w hSw; (try dsimp only at hSw); go_simp; (try with_reducible rfl)
            (try simp only [Act.put, List.getElem_toArray, List.getElem_cons_zero, List.getElem_cons_succ, List.setIfInBounds_toArray, List.set_cons_zero, List.set_cons_succ])
            refine wpAnyH_take (i := 6) (v := ?_) rfl (by kernel_rfl) (by kernel_rfl) (by kernel_rfl) (fun _ _ _ h => h) (Or.inl ⟨by rfl, ?_⟩) (by assumption) ?_
            rotate_left
            · intro w hSw; (try dsimp only at hSw); go_simp; (try with_reducible rfl)
            (try simp only [Act.put, List.getElem_toArray, List.getElem_cons_zero, List.getElem_cons_succ, List.setIfInBounds_toArray, List.set_cons_zero, List.set_cons_succ])
            refine wpAnyH_take (i := 7) (v := ?_) rfl (by kernel_rfl) (by kernel_rfl) (by kernel_rfl) (fun _ _ _ h => h) (Or.inl ⟨by rfl, ?_⟩) (by assumption) ?_
            rotate_left
            · intro w hSw; (try dsimp only at hSw); go_simp; (try with_reducible rfl)
            (try simp only [Act.put, List.getElem_toArray, List.getElem_cons_zero, List.getElem_cons_succ, List.setIfInBounds_toArray, List.set_cons_zero, List.set_cons_succ])
            refine wpAnyH_take (i := 8) (v := ?_) rfl (by kernel_rfl) (by kernel_rfl) (by kernel_rfl) (fun _ _ _ h => h) (Or.inl ⟨by rfl, ?_⟩) (by assumption) ?_
            rotate_left
            · intro w hSw; (try dsimp only at hSw); go_simp; (try with_reducible rfl)
            (try simp only [Act.put, List.getElem_toArray, List.getElem_cons_zero, List.getElem_cons_succ, List.setIfInBounds_toArray, List.set_cons_zero, List.set_cons_succ])
            refine wpAnyH_take (i := 9) (v := ?_) rfl (by kernel_rfl) (by kernel_rfl) (by kernel_rfl) (fun _ _ _ h => h) (Or.inl ⟨by rfl, ?_⟩) (by assumption) ?_
            rotate_left
            · intro w hSw; (try dsimp only at hSw); go_simp; (try with_reducible rfl)
            (try simp only [Act.put, List.getElem_toArray, List.getElem_cons_zero, List.getElem_cons_succ, List.setIfInBounds_toArray, List.set_cons_zero, List.set_cons_succ])
            refine wpAnyH_take (i := 10) (v := ?_) rfl (by kernel_rfl) (by kernel_rfl) (by kernel_rfl) (fun _ _ _ h => h) (Or.inl ⟨by rfl, ?_⟩) (by assumption) ?_
            rotate_left
            · intro w hSw; (try dsimp only at hSw); go_simp; (try with_reducible rfl)
            (try simp only [Act.put, List.getElem_toArray, List.getElem_cons_zero, List.getElem_cons_succ, List.setIfInBounds_toArray, List.set_cons_zero, List.set_cons_succ])
            generalize wr.drew = wz at *
            refine wpAnyH_ready (rs := [5, 12, 13]) (by kernel_rfl) (by simp) ?_
            refine AllReadyH.cons rfl (fun K hK => ?_) (AllReadyH.cons rfl (fun K hK => ?_) (AllReadyH.cons rfl (fun K hK => ?_) (AllReadyH.nil)))
            · go_simp
              (with_reducible refine (l3Faded_any a ye _ ha2 ha4 hy).mono ?_)
              rintro e w11 ⟨rfl, hb5⟩
              replace ga0 := cells_of hb5 ga0 hbw
              replace ga1 := cells_of hb5 ga1 hbw
              replace ga2 := cells_of hb5 ga2 hbw
              replace ga3 := cells_of hb5 ga3 hbw
              replace ga4 := cells_of hb5 ga4 hbw
              replace gs0 := cells_of hb5 gs0 hbw
              replace gs1 := cells_of hb5 gs1 hbw
              replace gs2 := cells_of hb5 gs2 hbw
              replace gs3 := cells_of hb5 gs3 hbw
              replace gs4 := cells_of hb5 gs4 hbw
              replace hbw := Nat.lt_of_lt_of_le hbw hb5.size
              replace ho := ho.all hb5
              replace HB := Lib.hid (HB.out.trans (hb5.mono HB.out.size))
              clear hb5
              refine hK.out _ _ (by exact ⟨ga0, ga1, ga2, ga3, ga4, gs0, gs1, gs2, gs3, gs4⟩) (fun hHeld => ?_)
              clear hK K
              (try simp only [Act.put, List.getElem_toArray, List.getElem_cons_zero, List.getElem_cons_succ, List.setIfInBounds_toArray, List.set_cons_zero, List.set_cons_succ])
              refine wpAnyH_ready (rs := [11, 12, 13]) (by kernel_rfl) (by simp) ?_
              refine AllReadyH.cons rfl (fun K hK => ?_) (AllReadyH.cons rfl (fun K hK => ?_) (AllReadyH.cons rfl (fun K hK => ?_) (AllReadyH.nil)))
              · go_simp
                (with_reducible refine (l3Faded_any s ye _ hs2 hs4 hy).mono ?_)
                rintro e w12 ⟨rfl, hb5⟩
                replace ga0 := cells_of hb5 ga0 hbw
                replace ga1 := cells_of hb5 ga1 hbw
                replace ga2 := cells_of hb5 ga2 hbw
                replace ga3 := cells_of hb5 ga3 hbw
                replace ga4 := cells_of hb5 ga4 hbw
                replace gs0 := cells_of hb5 gs0 hbw
                replace gs1 := cells_of hb5 gs1 hbw
                replace gs2 := cells_of hb5 gs2 hbw
                replace gs3 := cells_of hb5 gs3 hbw
                replace gs4 := cells_of hb5 gs4 hbw
                replace hbw := Nat.lt_of_lt_of_le hbw hb5.size
                replace ho := ho.all hb5
                replace HB := Lib.hid (HB.out.trans (hb5.mono HB.out.size))
                clear hb5
                refine hK.out _ _ (by exact ⟨ga0, ga1, ga2, ga3, ga4, gs0, gs1, gs2, gs3, gs4⟩) (fun hHeld => ?_)
                clear hK K
                (try simp only [Act.put, List.getElem_toArray, List.getElem_cons_zero, List.getElem_cons_succ, List.setIfInBounds_toArray, List.set_cons_zero, List.set_cons_succ])
                refine wpAnyH_ready (rs := [12, 13]) (by kernel_rfl) (by simp) ?_
                refine AllReadyH.cons rfl (fun K hK => ?_) (AllReadyH.cons rfl (fun K hK => ?_) (AllReadyH.nil))
                · go_simp
                  replace ga0 := (World.cell?_alloc_lt w12 (.cells #[.int .i64 0, .string ⟨#[]⟩, .int .i64 0, .int .i64 0, .int .i64 0] 30) ⟨b_, _, none⟩ hbw).trans ga0
                  replace ga1 := (World.cell?_alloc_lt w12 (.cells #[.int .i64 0, .string ⟨#[]⟩, .int .i64 0, .int .i64 0, .int .i64 0] 30) ⟨b_, _, none⟩ hbw).trans ga1
                  replace ga2 := (World.cell?_alloc_lt w12 (.cells #[.int .i64 0, .string ⟨#[]⟩, .int .i64 0, .int .i64 0, .int .i64 0] 30) ⟨b_, _, none⟩ hbw).trans ga2
                  replace ga3 := (World.cell?_alloc_lt w12 (.cells #[.int .i64 0, .string ⟨#[]⟩, .int .i64 0, .int .i64 0, .int .i64 0] 30) ⟨b_, _, none⟩ hbw).trans ga3
                  replace ga4 := (World.cell?_alloc_lt w12 (.cells #[.int .i64 0, .string ⟨#[]⟩, .int .i64 0, .int .i64 0, .int .i64 0] 30) ⟨b_, _, none⟩ hbw).trans ga4
                  replace gs0 := (World.cell?_alloc_lt w12 (.cells #[.int .i64 0, .string ⟨#[]⟩, .int .i64 0, .int .i64 0, .int .i64 0] 30) ⟨b_, _, none⟩ hbw).trans gs0
                  replace gs1 := (World.cell?_alloc_lt w12 (.cells #[.int .i64 0, .string ⟨#[]⟩, .int .i64 0, .int .i64 0, .int .i64 0] 30) ⟨b_, _, none⟩ hbw).trans gs1
                  replace gs2 := (World.cell?_alloc_lt w12 (.cells #[.int .i64 0, .string ⟨#[]⟩, .int .i64 0, .int .i64 0, .int .i64 0] 30) ⟨b_, _, none⟩ hbw).trans gs2
                  replace gs3 := (World.cell?_alloc_lt w12 (.cells #[.int .i64 0, .string ⟨#[]⟩, .int .i64 0, .int .i64 0, .int .i64 0] 30) ⟨b_, _, none⟩ hbw).trans gs3
                  replace gs4 := (World.cell?_alloc_lt w12 (.cells #[.int .i64 0, .string ⟨#[]⟩, .int .i64 0, .int .i64 0, .int .i64 0] 30) ⟨b_, _, none⟩ hbw).trans gs4
                  have x11 := Blk.new w12 #[.int .i64 0, .string ⟨#[]⟩, .int .i64 0, .int .i64 0, .int .i64 0] 30
                  have hbz12 : b_ < w12.heap.size := hbw
                  have hwz12 : w.heap.size ≤ w12.heap.size := HB.out.size
                  replace ho := ho.all ((Below.refl w12.heap.size w12).alloc (Nat.le_refl _) (.cells #[.int .i64 0, .string ⟨#[]⟩, .int .i64 0, .int .i64 0, .int .i64 0] 30))
                  replace HB := Lib.hid (HB.out.alloc HB.out.size (.cells #[.int .i64 0, .string ⟨#[]⟩, .int .i64 0, .int .i64 0, .int .i64 0] 30))
                  replace hbw : b_ < (w12.alloc (.cells #[.int .i64 0, .string ⟨#[]⟩, .int .i64 0, .int .i64 0, .int .i64 0] 30)).heap.size := Nat.lt_of_lt_of_le hbw (by simp)
                  refine hK.out _ _ (by exact ⟨ga0, ga1, ga2, ga3, ga4, gs0, gs1, gs2, gs3, gs4⟩) (fun hHeld => ?_)
                  clear hK K
                  (try simp only [Act.put, List.getElem_toArray, List.getElem_cons_zero, List.getElem_cons_succ, List.setIfInBounds_toArray, List.set_cons_zero, List.set_cons_succ])
                  refine wpAnyH_ready (rs := [13]) (by kernel_rfl) (by simp) ?_
                  refine AllReadyH.cons rfl (fun K hK => ?_) (AllReadyH.nil)
                  · go_simp
                    have hpq : w12.heap.size < (w12.alloc (.cells #[.int .i64 0, .string ⟨#[]⟩, .int .i64 0, .int .i64 0, .int .i64 0] 30)).heap.size := x11.lt
                    replace ga0 := (World.cell?_alloc_lt (w12.alloc (.cells #[.int .i64 0, .string ⟨#[]⟩, .int .i64 0, .int .i64 0, .int .i64 0] 30)) (.cells #[.int .i64 0, .string ⟨#[]⟩, .int .i64 0, .int .i64 0, .int .i64 0] 30) ⟨b_, _, none⟩ hbw).trans ga0
                    replace ga1 := (World.cell?_alloc_lt (w12.alloc (.cells #[.int .i64 0, .string ⟨#[]⟩, .int .i64 0, .int .i64 0, .int .i64 0] 30)) (.cells #[.int .i64 0, .string ⟨#[]⟩, .int .i64 0, .int .i64 0, .int .i64 0] 30) ⟨b_, _, none⟩ hbw).trans ga1
                    replace ga2 := (World.cell?_alloc_lt (w12.alloc (.cells #[.int .i64 0, .string ⟨#[]⟩, .int .i64 0, .int .i64 0, .int .i64 0] 30)) (.cells #[.int .i64 0, .string ⟨#[]⟩, .int .i64 0, .int .i64 0, .int .i64 0] 30) ⟨b_, _, none⟩ hbw).trans ga2
                    replace ga3 := (World.cell?_alloc_lt (w12.alloc (.cells #[.int .i64 0, .string ⟨#[]⟩, .int .i64 0, .int .i64 0, .int .i64 0] 30)) (.cells #[.int .i64 0, .string ⟨#[]⟩, .int .i64 0, .int .i64 0, .int .i64 0] 30) ⟨b_, _, none⟩ hbw).trans ga3
                    replace ga4 := (World.cell?_alloc_lt (w12.alloc (.cells #[.int .i64 0, .string ⟨#[]⟩, .int .i64 0, .int .i64 0, .int .i64 0] 30)) (.cells #[.int .i64 0, .string ⟨#[]⟩, .int .i64 0, .int .i64 0, .int .i64 0] 30) ⟨b_, _, none⟩ hbw).trans ga4
                    replace gs0 := (World.cell?_alloc_lt (w12.alloc (.cells #[.int .i64 0, .string ⟨#[]⟩, .int .i64 0, .int .i64 0, .int .i64 0] 30)) (.cells #[.int .i64 0, .string ⟨#[]⟩, .int .i64 0, .int .i64 0, .int .i64 0] 30) ⟨b_, _, none⟩ hbw).trans gs0
                    replace gs1 := (World.cell?_alloc_lt (w12.alloc (.cells #[.int .i64 0, .string ⟨#[]⟩, .int .i64 0, .int .i64 0, .int .i64 0] 30)) (.cells #[.int .i64 0, .string ⟨#[]⟩, .int .i64 0, .int .i64 0, .int .i64 0] 30) ⟨b_, _, none⟩ hbw).trans gs1
                    replace gs2 := (World.cell?_alloc_lt (w12.alloc (.cells #[.int .i64 0, .string ⟨#[]⟩, .int .i64 0, .int .i64 0, .int .i64 0] 30)) (.cells #[.int .i64 0, .string ⟨#[]⟩, .int .i64 0, .int .i64 0, .int .i64 0] 30) ⟨b_, _, none⟩ hbw).trans gs2
                    replace gs3 := (World.cell?_alloc_lt (w12.alloc (.cells #[.int .i64 0, .string ⟨#[]⟩, .int .i64 0, .int .i64 0, .int .i64 0] 30)) (.cells #[.int .i64 0, .string ⟨#[]⟩, .int .i64 0, .int .i64 0, .int .i64 0] 30) ⟨b_, _, none⟩ hbw).trans gs3
                    replace gs4 := (World.cell?_alloc_lt (w12.alloc (.cells #[.int .i64 0, .string ⟨#[]⟩, .int .i64 0, .int .i64 0, .int .i64 0] 30)) (.cells #[.int .i64 0, .string ⟨#[]⟩, .int .i64 0, .int .i64 0, .int .i64 0] 30) ⟨b_, _, none⟩ hbw).trans gs4
                    replace x11 := x11.alloc (.cells #[.int .i64 0, .string ⟨#[]⟩, .int .i64 0, .int .i64 0, .int .i64 0] 30)
                    have x12 := Blk.new (w12.alloc (.cells #[.int .i64 0, .string ⟨#[]⟩, .int .i64 0, .int .i64 0, .int .i64 0] 30)) #[.int .i64 0, .string ⟨#[]⟩, .int .i64 0, .int .i64 0, .int .i64 0] 30
                    have hbz13 : b_ < (w12.alloc (.cells #[.int .i64 0, .string ⟨#[]⟩, .int .i64 0, .int .i64 0, .int .i64 0] 30)).heap.size := hbw
                    have hwz13 : w.heap.size ≤ (w12.alloc (.cells #[.int .i64 0, .string ⟨#[]⟩, .int .i64 0, .int .i64 0, .int .i64 0] 30)).heap.size := HB.out.size
                    rw [show (w12.alloc (.cells #[.int .i64 0, .string ⟨#[]⟩, .int .i64 0, .int .i64 0, .int .i64 0] 30)).heap.size = w12.heap.size + 1 by simp] at x12 hbz13 hwz13 hpq
                    replace ho := ho.all ((Below.refl (w12.alloc (.cells #[.int .i64 0, .string ⟨#[]⟩, .int .i64 0, .int .i64 0, .int .i64 0] 30)).heap.size (w12.alloc (.cells #[.int .i64 0, .string ⟨#[]⟩, .int .i64 0, .int .i64 0, .int .i64 0] 30))).alloc (Nat.le_refl _) (.cells #[.int .i64 0, .string ⟨#[]⟩, .int .i64 0, .int .i64 0, .int .i64 0] 30))
                    replace HB := Lib.hid (HB.out.alloc HB.out.size (.cells #[.int .i64 0, .string ⟨#[]⟩, .int .i64 0, .int .i64 0, .int .i64 0] 30))
                    replace hbw : b_ < ((w12.alloc (.cells #[.int .i64 0, .string ⟨#[]⟩, .int .i64 0, .int .i64 0, .int .i64 0] 30)).alloc (.cells #[.int .i64 0, .string ⟨#[]⟩, .int .i64 0, .int .i64 0, .int .i64 0] 30)).heap.size := Nat.lt_of_lt_of_le hbw (by simp)
                    refine hK.out _ _ (by exact ⟨ga0, ga1, ga2, ga3, ga4, gs0, gs1, gs2, gs3, gs4⟩) (fun hHeld => ?_)
                    clear hK K
                    (try simp only [Act.put, List.getElem_toArray, List.getElem_cons_zero, List.getElem_cons_succ, List.setIfInBounds_toArray, List.set_cons_zero, List.set_cons_succ])
                    generalize ((w12.alloc (.cells #[.int .i64 0, .string ⟨#[]⟩, .int .i64 0, .int .i64 0, .int .i64 0] 30)).alloc (.cells #[.int .i64 0, .string ⟨#[]⟩, .int .i64 0, .int .i64 0, .int .i64 0] 30)) = wl at *
                    have hne0 : w12.heap.size ≠ w12.heap.size + 1 := by omega
                    clear hpq
                    obtain ⟨Q, hQ⟩ : ∃ Q, w12.heap.size + 1 = Q := ⟨_, rfl⟩
                    rw [hQ] at x12 hbz13 hwz13 hne0 ⊢
                    clear hQ
                    obtain ⟨P, hP⟩ : ∃ P, w12.heap.size = P := ⟨_, rfl⟩
                    rw [hP] at x11 hbz12 hwz12 hne0 ⊢
                    clear hP
                    have hne : P ≠ Q := hne0
                    have hzz := x11.lt
                    have c0 := x11.cell 0
                    have f0 := x11.frozen 0
                    have c1 := x11.cell 1
                    have f1 := x11.frozen 1
                    have c2 := x11.cell 2
                    have f2 := x11.frozen 2
                    have c3 := x11.cell 3
                    have f3 := x11.frozen 3
                    have c4 := x11.cell 4
                    have f4 := x11.frozen 4
                    have y0 := x11
                    have z0 := x12
                    have o0 := ho
                    have o1 := o0.apart (i := 0) y0 (.int .i64 a.f0)
                    have y1 := y0.set_ 0 (.int .i64 a.f0)
                    have z1 := z0.far (a := ⟨P, 0, none⟩) (show Q ≠ P by omega) (.int .i64 a.f0)
                    have o2 := o1.apart (i := 1) y1 (.string a.f1)
                    have y2 := y1.set_ 1 (.string a.f1)
                    have z2 := z1.far (a := ⟨P, 1, none⟩) (show Q ≠ P by omega) (.string a.f1)
                    have o3 := o2.apart (i := 2) y2 (.int .i64 a.f2)
                    have y3 := y2.set_ 2 (.int .i64 a.f2)
                    have z3 := z2.far (a := ⟨P, 2, none⟩) (show Q ≠ P by omega) (.int .i64 a.f2)
                    have o4 := o3.apart (i := 3) y3 (.int .i64 (max (a.f3 - ye / (5 * a.f4)) 0))
                    have y4 := y3.set_ 3 (.int .i64 (max (a.f3 - ye / (5 * a.f4)) 0))
                    have z4 := z3.far (a := ⟨P, 3, none⟩) (show Q ≠ P by omega) (.int .i64 (max (a.f3 - ye / (5 * a.f4)) 0))
                    have o5 := o4.apart (i := 4) y4 (.int .i64 a.f4)
                    have y5 := y4.set_ 4 (.int .i64 a.f4)
                    have z5 := z4.far (a := ⟨P, 4, none⟩) (show Q ≠ P by omega) (.int .i64 a.f4)
                    replace HB := Lib.hid (((((HB.out.setCell (p := ⟨P, 0, none⟩) hwz12 (.int .i64 a.f0)).setCell (p := ⟨P, 1, none⟩) hwz12 (.string a.f1)).setCell (p := ⟨P, 2, none⟩) hwz12 (.int .i64 a.f2)).setCell (p := ⟨P, 3, none⟩) hwz12 (.int .i64 (max (a.f3 - ye / (5 * a.f4)) 0))).setCell (p := ⟨P, 4, none⟩) hwz12 (.int .i64 a.f4))
                    have hbk := ((((((Below.refl (b_ + 1) wl).setCell (p := ⟨P, 0, none⟩) hbz12 (.int .i64 a.f0)).setCell (p := ⟨P, 1, none⟩) hbz12 (.string a.f1)).setCell (p := ⟨P, 2, none⟩) hbz12 (.int .i64 a.f2)).setCell (p := ⟨P, 3, none⟩) hbz12 (.int .i64 (max (a.f3 - ye / (5 * a.f4)) 0))).setCell (p := ⟨P, 4, none⟩) hbz12 (.int .i64 a.f4))
                    replace ga0 := cells_of hbk ga0 (Nat.lt_succ_self _)
                    replace ga1 := cells_of hbk ga1 (Nat.lt_succ_self _)
                    replace ga2 := cells_of hbk ga2 (Nat.lt_succ_self _)
                    replace ga3 := cells_of hbk ga3 (Nat.lt_succ_self _)
                    replace ga4 := cells_of hbk ga4 (Nat.lt_succ_self _)
                    replace gs0 := cells_of hbk gs0 (Nat.lt_succ_self _)
                    replace gs1 := cells_of hbk gs1 (Nat.lt_succ_self _)
                    replace gs2 := cells_of hbk gs2 (Nat.lt_succ_self _)
                    replace gs3 := cells_of hbk gs3 (Nat.lt_succ_self _)
                    replace gs4 := cells_of hbk gs4 (Nat.lt_succ_self _)
                    refine wpAnyH_ready (rs := [14]) (by kernel_rfl) (by simp) ?_
                    refine AllReadyH.cons rfl (fun K hK => ?_) AllReadyH.nil
                    go_simp
                    refine hK.out _ _ (by exact ⟨ga0, ga1, ga2, ga3, ga4, gs0, gs1, gs2, gs3, gs4⟩) (fun hHeld => ?_)
                    clear hK K
                    (try simp only [Act.put, List.getElem_toArray, List.getElem_cons_zero, List.getElem_cons_succ, List.setIfInBounds_toArray, List.set_cons_zero, List.set_cons_succ])
                    replace x11 : Blk (((((wl.setCell ⟨P, 0, none⟩ (.int .i64 a.f0)).setCell ⟨P, 1, none⟩ (.string a.f1)).setCell ⟨P, 2, none⟩ (.int .i64 a.f2)).setCell ⟨P, 3, none⟩ (.int .i64 (max (a.f3 - ye / (5 * a.f4)) 0))).setCell ⟨P, 4, none⟩ (.int .i64 a.f4)) P 30 #[.int .i64 a.f0, .string a.f1, .int .i64 a.f2, .int .i64 (max (a.f3 - ye / (5 * a.f4)) 0), .int .i64 a.f4] := y5
                    replace x12 := z5
                    replace ho := o5
                    clear y0 y1 y2 y3 y4 y5 z0 z1 z2 z3 z4 z5 o0 o1 o2 o3 o4 o5 c0 f0 c1 f1 c2 f2 c3 f3 c4 f4 hbk hzz
                    generalize (((((wl.setCell ⟨P, 0, none⟩ (.int .i64 a.f0)).setCell ⟨P, 1, none⟩ (.string a.f1)).setCell ⟨P, 2, none⟩ (.int .i64 a.f2)).setCell ⟨P, 3, none⟩ (.int .i64 (max (a.f3 - ye / (5 * a.f4)) 0))).setCell ⟨P, 4, none⟩ (.int .i64 a.f4)) = wP9 at *
                    have hzz := x12.lt
                    have c0 := x12.cell 0
                    have f0 := x12.frozen 0
                    have c1 := x12.cell 1
                    have f1 := x12.frozen 1
                    have c2 := x12.cell 2
                    have f2 := x12.frozen 2
                    have c3 := x12.cell 3
                    have f3 := x12.frozen 3
                    have c4 := x12.cell 4
                    have f4 := x12.frozen 4
                    have y0 := x12
                    have z0 := x11
                    have o0 := ho
                    have o1 := o0.apart (i := 0) y0 (.int .i64 s.f0)
                    have y1 := y0.set_ 0 (.int .i64 s.f0)
                    have z1 := z0.far (a := ⟨Q, 0, none⟩) (show P ≠ Q by omega) (.int .i64 s.f0)
                    have o2 := o1.apart (i := 1) y1 (.string s.f1)
                    have y2 := y1.set_ 1 (.string s.f1)
                    have z2 := z1.far (a := ⟨Q, 1, none⟩) (show P ≠ Q by omega) (.string s.f1)
                    have o3 := o2.apart (i := 2) y2 (.int .i64 s.f2)
                    have y3 := y2.set_ 2 (.int .i64 s.f2)
                    have z3 := z2.far (a := ⟨Q, 2, none⟩) (show P ≠ Q by omega) (.int .i64 s.f2)
                    have o4 := o3.apart (i := 3) y3 (.int .i64 (max (s.f3 - ye / (5 * s.f4)) 0))
                    have y4 := y3.set_ 3 (.int .i64 (max (s.f3 - ye / (5 * s.f4)) 0))
                    have z4 := z3.far (a := ⟨Q, 3, none⟩) (show P ≠ Q by omega) (.int .i64 (max (s.f3 - ye / (5 * s.f4)) 0))
                    have o5 := o4.apart (i := 4) y4 (.int .i64 s.f4)
                    have y5 := y4.set_ 4 (.int .i64 s.f4)
                    have z5 := z4.far (a := ⟨Q, 4, none⟩) (show P ≠ Q by omega) (.int .i64 s.f4)
                    replace HB := Lib.hid (((((HB.out.setCell (p := ⟨Q, 0, none⟩) hwz13 (.int .i64 s.f0)).setCell (p := ⟨Q, 1, none⟩) hwz13 (.string s.f1)).setCell (p := ⟨Q, 2, none⟩) hwz13 (.int .i64 s.f2)).setCell (p := ⟨Q, 3, none⟩) hwz13 (.int .i64 (max (s.f3 - ye / (5 * s.f4)) 0))).setCell (p := ⟨Q, 4, none⟩) hwz13 (.int .i64 s.f4))
                    have hbk := ((((((Below.refl (b_ + 1) wP9).setCell (p := ⟨Q, 0, none⟩) hbz13 (.int .i64 s.f0)).setCell (p := ⟨Q, 1, none⟩) hbz13 (.string s.f1)).setCell (p := ⟨Q, 2, none⟩) hbz13 (.int .i64 s.f2)).setCell (p := ⟨Q, 3, none⟩) hbz13 (.int .i64 (max (s.f3 - ye / (5 * s.f4)) 0))).setCell (p := ⟨Q, 4, none⟩) hbz13 (.int .i64 s.f4))
                    replace ga0 := cells_of hbk ga0 (Nat.lt_succ_self _)
                    replace ga1 := cells_of hbk ga1 (Nat.lt_succ_self _)
                    replace ga2 := cells_of hbk ga2 (Nat.lt_succ_self _)
                    replace ga3 := cells_of hbk ga3 (Nat.lt_succ_self _)
                    replace ga4 := cells_of hbk ga4 (Nat.lt_succ_self _)
                    replace gs0 := cells_of hbk gs0 (Nat.lt_succ_self _)
                    replace gs1 := cells_of hbk gs1 (Nat.lt_succ_self _)
                    replace gs2 := cells_of hbk gs2 (Nat.lt_succ_self _)
                    replace gs3 := cells_of hbk gs3 (Nat.lt_succ_self _)
                    replace gs4 := cells_of hbk gs4 (Nat.lt_succ_self _)
                    refine wpAnyH_ready (rs := [15]) (by kernel_rfl) (by simp) ?_
                    refine AllReadyH.cons rfl (fun K hK => ?_) AllReadyH.nil
                    go_simp
                    refine hK.out _ _ (by exact ⟨ga0, ga1, ga2, ga3, ga4, gs0, gs1, gs2, gs3, gs4⟩) (fun hHeld => ?_)
                    clear hK K
                    (try simp only [Act.put, List.getElem_toArray, List.getElem_cons_zero, List.getElem_cons_succ, List.setIfInBounds_toArray, List.set_cons_zero, List.set_cons_succ])
                    replace x12 : Blk (((((wP9.setCell ⟨Q, 0, none⟩ (.int .i64 s.f0)).setCell ⟨Q, 1, none⟩ (.string s.f1)).setCell ⟨Q, 2, none⟩ (.int .i64 s.f2)).setCell ⟨Q, 3, none⟩ (.int .i64 (max (s.f3 - ye / (5 * s.f4)) 0))).setCell ⟨Q, 4, none⟩ (.int .i64 s.f4)) Q 30 #[.int .i64 s.f0, .string s.f1, .int .i64 s.f2, .int .i64 (max (s.f3 - ye / (5 * s.f4)) 0), .int .i64 s.f4] := y5
                    replace x11 := z5
                    replace ho := o5
                    clear y0 y1 y2 y3 y4 y5 z0 z1 z2 z3 z4 z5 o0 o1 o2 o3 o4 o5 c0 f0 c1 f1 c2 f2 c3 f3 c4 f4 hbk hzz
                    generalize (((((wP9.setCell ⟨Q, 0, none⟩ (.int .i64 s.f0)).setCell ⟨Q, 1, none⟩ (.string s.f1)).setCell ⟨Q, 2, none⟩ (.int .i64 s.f2)).setCell ⟨Q, 3, none⟩ (.int .i64 (max (s.f3 - ye / (5 * s.f4)) 0))).setCell ⟨Q, 4, none⟩ (.int .i64 s.f4)) = wQ9 at *
                    refine wpAnyH_done (by kernel_rfl) ?_ _
                    refine NoPanic.normal ?_
                    go_wp2_with fail
                    go_meet
                    exact ⟨rfl, P, Q, rfl, rfl, x11, x12, ho, HB.out⟩
                · go_simp
                  replace ga0 := (World.cell?_alloc_lt w12 (.cells #[.int .i64 0, .string ⟨#[]⟩, .int .i64 0, .int .i64 0, .int .i64 0] 30) ⟨b_, _, none⟩ hbw).trans ga0
                  replace ga1 := (World.cell?_alloc_lt w12 (.cells #[.int .i64 0, .string ⟨#[]⟩, .int .i64 0, .int .i64 0, .int .i64 0] 30) ⟨b_, _, none⟩ hbw).trans ga1
                  replace ga2 := (World.cell?_alloc_lt w12 (.cells #[.int .i64 0, .string ⟨#[]⟩, .int .i64 0, .int .i64 0, .int .i64 0] 30) ⟨b_, _, none⟩ hbw).trans ga2
                  replace ga3 := (World.cell?_alloc_lt w12 (.cells #[.int .i64 0, .string ⟨#[]⟩, .int .i64 0, .int .i64 0, .int .i64 0] 30) ⟨b_, _, none⟩ hbw).trans ga3
                  replace ga4 := (World.cell?_alloc_lt w12 (.cells #[.int .i64 0, .string ⟨#[]⟩, .int .i64 0, .int .i64 0, .int .i64 0] 30) ⟨b_, _, none⟩ hbw).trans ga4
                  replace gs0 := (World.cell?_alloc_lt w12 (.cells #[.int .i64 0, .string ⟨#[]⟩, .int .i64 0, .int .i64 0, .int .i64 0] 30) ⟨b_, _, none⟩ hbw).trans gs0
                  replace gs1 := (World.cell?_alloc_lt w12 (.cells #[.int .i64 0, .string ⟨#[]⟩, .int .i64 0, .int .i64 0, .int .i64 0] 30) ⟨b_, _, none⟩ hbw).trans gs1
                  replace gs2 := (World.cell?_alloc_lt w12 (.cells #[.int .i64 0, .string ⟨#[]⟩, .int .i64 0, .int .i64 0, .int .i64 0] 30) ⟨b_, _, none⟩ hbw).trans gs2
                  replace gs3 := (World.cell?_alloc_lt w12 (.cells #[.int .i64 0, .string ⟨#[]⟩, .int .i64 0, .int .i64 0, .int .i64 0] 30) ⟨b_, _, none⟩ hbw).trans gs3
                  replace gs4 := (World.cell?_alloc_lt w12 (.cells #[.int .i64 0, .string ⟨#[]⟩, .int .i64 0, .int .i64 0, .int .i64 0] 30) ⟨b_, _, none⟩ hbw).trans gs4
                  have x12 := Blk.new w12 #[.int .i64 0, .string ⟨#[]⟩, .int .i64 0, .int .i64 0, .int .i64 0] 30
                  have hbz13 : b_ < w12.heap.size := hbw
                  have hwz13 : w.heap.size ≤ w12.heap.size := HB.out.size
                  replace ho := ho.all ((Below.refl w12.heap.size w12).alloc (Nat.le_refl _) (.cells #[.int .i64 0, .string ⟨#[]⟩, .int .i64 0, .int .i64 0, .int .i64 0] 30))
                  replace HB := Lib.hid (HB.out.alloc HB.out.size (.cells #[.int .i64 0, .string ⟨#[]⟩, .int .i64 0, .int .i64 0, .int .i64 0] 30))
                  replace hbw : b_ < (w12.alloc (.cells #[.int .i64 0, .string ⟨#[]⟩, .int .i64 0, .int .i64 0, .int .i64 0] 30)).heap.size := Nat.lt_of_lt_of_le hbw (by simp)
                  refine hK.out _ _ (by exact ⟨ga0, ga1, ga2, ga3, ga4, gs0, gs1, gs2, gs3, gs4⟩) (fun hHeld => ?_)
                  clear hK K
                  (try simp only [Act.put, List.getElem_toArray, List.getElem_cons_zero, List.getElem_cons_succ, List.setIfInBounds_toArray, List.set_cons_zero, List.set_cons_succ])
                  refine wpAnyH_ready (rs := [12]) (by kernel_rfl) (by simp) ?_
                  refine AllReadyH.cons rfl (fun K hK => ?_) (AllReadyH.nil)
                  · go_simp
                    have hpq : w12.heap.size < (w12.alloc (.cells #[.int .i64 0, .string ⟨#[]⟩, .int .i64 0, .int .i64 0, .int .i64 0] 30)).heap.size := x12.lt
                    replace ga0 := (World.cell?_alloc_lt (w12.alloc (.cells #[.int .i64 0, .string ⟨#[]⟩, .int .i64 0, .int .i64 0, .int .i64 0] 30)) (.cells #[.int .i64 0, .string ⟨#[]⟩, .int .i64 0, .int .i64 0, .int .i64 0] 30) ⟨b_, _, none⟩ hbw).trans ga0
                    replace ga1 := (World.cell?_alloc_lt (w12.alloc (.cells #[.int .i64 0, .string ⟨#[]⟩, .int .i64 0, .int .i64 0, .int .i64 0] 30)) (.cells #[.int .i64 0, .string ⟨#[]⟩, .int .i64 0, .int .i64 0, .int .i64 0] 30) ⟨b_, _, none⟩ hbw).trans ga1
                    replace ga2 := (World.cell?_alloc_lt (w12.alloc (.cells #[.int .i64 0, .string ⟨#[]⟩, .int .i64 0, .int .i64 0, .int .i64 0] 30)) (.cells #[.int .i64 0, .string ⟨#[]⟩, .int .i64 0, .int .i64 0, .int .i64 0] 30) ⟨b_, _, none⟩ hbw).trans ga2
                    replace ga3 := (World.cell?_alloc_lt (w12.alloc (.cells #[.int .i64 0, .string ⟨#[]⟩, .int .i64 0, .int .i64 0, .int .i64 0] 30)) (.cells #[.int .i64 0, .string ⟨#[]⟩, .int .i64 0, .int .i64 0, .int .i64 0] 30) ⟨b_, _, none⟩ hbw).trans ga3
                    replace ga4 := (World.cell?_alloc_lt (w12.alloc (.cells #[.int .i64 0, .string ⟨#[]⟩, .int .i64 0, .int .i64 0, .int .i64 0] 30)) (.cells #[.int .i64 0, .string ⟨#[]⟩, .int .i64 0, .int .i64 0, .int .i64 0] 30) ⟨b_, _, none⟩ hbw).trans ga4
                    replace gs0 := (World.cell?_alloc_lt (w12.alloc (.cells #[.int .i64 0, .string ⟨#[]⟩, .int .i64 0, .int .i64 0, .int .i64 0] 30)) (.cells #[.int .i64 0, .string ⟨#[]⟩, .int .i64 0, .int .i64 0, .int .i64 0] 30) ⟨b_, _, none⟩ hbw).trans gs0
                    replace gs1 := (World.cell?_alloc_lt (w12.alloc (.cells #[.int .i64 0, .string ⟨#[]⟩, .int .i64 0, .int .i64 0, .int .i64 0] 30)) (.cells #[.int .i64 0, .string ⟨#[]⟩, .int .i64 0, .int .i64 0, .int .i64 0] 30) ⟨b_, _, none⟩ hbw).trans gs1
                    replace gs2 := (World.cell?_alloc_lt (w12.alloc (.cells #[.int .i64 0, .string ⟨#[]⟩, .int .i64 0, .int .i64 0, .int .i64 0] 30)) (.cells #[.int .i64 0, .string ⟨#[]⟩, .int .i64 0, .int .i64 0, .int .i64 0] 30) ⟨b_, _, none⟩ hbw).trans gs2
                    replace gs3 := (World.cell?_alloc_lt (w12.alloc (.cells #[.int .i64 0, .string ⟨#[]⟩, .int .i64 0, .int .i64 0, .int .i64 0] 30)) (.cells #[.int .i64 0, .string ⟨#[]⟩, .int .i64 0, .int .i64 0, .int .i64 0] 30) ⟨b_, _, none⟩ hbw).trans gs3
                    replace gs4 := (World.cell?_alloc_lt (w12.alloc (.cells #[.int .i64 0, .string ⟨#[]⟩, .int .i64 0, .int .i64 0, .int .i64 0] 30)) (.cells #[.int .i64 0, .string ⟨#[]⟩, .int .i64 0, .int .i64 0, .int .i64 0] 30) ⟨b_, _, none⟩ hbw).trans gs4
                    replace x12 := x12.alloc (.cells #[.int .i64 0, .string ⟨#[]⟩, .int .i64 0, .int .i64 0, .int .i64 0] 30)
                    have x11 := Blk.new (w12.alloc (.cells #[.int .i64 0, .string ⟨#[]⟩, .int .i64 0, .int .i64 0, .int .i64 0] 30)) #[.int .i64 0, .string ⟨#[]⟩, .int .i64 0, .int .i64 0, .int .i64 0] 30
                    have hbz12 : b_ < (w12.alloc (.cells #[.int .i64 0, .string ⟨#[]⟩, .int .i64 0, .int .i64 0, .int .i64 0] 30)).heap.size := hbw
                    have hwz12 : w.heap.size ≤ (w12.alloc (.cells #[.int .i64 0, .string ⟨#[]⟩, .int .i64 0, .int .i64 0, .int .i64 0] 30)).heap.size := HB.out.size
                    rw [show (w12.alloc (.cells #[.int .i64 0, .string ⟨#[]⟩, .int .i64 0, .int .i64 0, .int .i64 0] 30)).heap.size = w12.heap.size + 1 by simp] at x11 hbz12 hwz12 hpq
                    replace ho := ho.all ((Below.refl (w12.alloc (.cells #[.int .i64 0, .string ⟨#[]⟩, .int .i64 0, .int .i64 0, .int .i64 0] 30)).heap.size (w12.alloc (.cells #[.int .i64 0, .string ⟨#[]⟩, .int .i64 0, .int .i64 0, .int .i64 0] 30))).alloc (Nat.le_refl _) (.cells #[.int .i64 0, .string ⟨#[]⟩, .int .i64 0, .int .i64 0, .int .i64 0] 30))
                    replace HB := Lib.hid (HB.out.alloc HB.out.size (.cells #[.int .i64 0, .string ⟨#[]⟩, .int .i64 0, .int .i64 0, .int .i64 0] 30))
                    replace hbw : b_ < ((w12.alloc (.cells #[.int .i64 0, .string ⟨#[]⟩, .int .i64 0, .int .i64 0, .int .i64 0] 30)).alloc (.cells #[.int .i64 0, .string ⟨#[]⟩, .int .i64 0, .int .i64 0, .int .i64 0] 30)).heap.size := Nat.lt_of_lt_of_le hbw (by simp)
                    refine hK.out _ _ (by exact ⟨ga0, ga1, ga2, ga3, ga4, gs0, gs1, gs2, gs3, gs4⟩) (fun hHeld => ?_)
                    clear hK K
                    (try simp only [Act.put, List.getElem_toArray, List.getElem_cons_zero, List.getElem_cons_succ, List.setIfInBounds_toArray, List.set_cons_zero, List.set_cons_succ])
                    generalize ((w12.alloc (.cells #[.int .i64 0, .string ⟨#[]⟩, .int .i64 0, .int .i64 0, .int .i64 0] 30)).alloc (.cells #[.int .i64 0, .string ⟨#[]⟩, .int .i64 0, .int .i64 0, .int .i64 0] 30)) = wl at *
                    have hne0 : w12.heap.size + 1 ≠ w12.heap.size := by omega
                    clear hpq
                    obtain ⟨P, hP⟩ : ∃ P, w12.heap.size + 1 = P := ⟨_, rfl⟩
                    rw [hP] at x11 hbz12 hwz12 hne0 ⊢
                    clear hP
                    obtain ⟨Q, hQ⟩ : ∃ Q, w12.heap.size = Q := ⟨_, rfl⟩
                    rw [hQ] at x12 hbz13 hwz13 hne0 ⊢
                    clear hQ
                    have hne : P ≠ Q := hne0
                    have hzz := x11.lt
                    have c0 := x11.cell 0
                    have f0 := x11.frozen 0
                    have c1 := x11.cell 1
                    have f1 := x11.frozen 1
                    have c2 := x11.cell 2
                    have f2 := x11.frozen 2
                    have c3 := x11.cell 3
                    have f3 := x11.frozen 3
                    have c4 := x11.cell 4
                    have f4 := x11.frozen 4
                    have y0 := x11
                    have z0 := x12
                    have o0 := ho
                    have o1 := o0.apart (i := 0) y0 (.int .i64 a.f0)
                    have y1 := y0.set_ 0 (.int .i64 a.f0)
                    have z1 := z0.far (a := ⟨P, 0, none⟩) (show Q ≠ P by omega) (.int .i64 a.f0)
                    have o2 := o1.apart (i := 1) y1 (.string a.f1)
                    have y2 := y1.set_ 1 (.string a.f1)
                    have z2 := z1.far (a := ⟨P, 1, none⟩) (show Q ≠ P by omega) (.string a.f1)
                    have o3 := o2.apart (i := 2) y2 (.int .i64 a.f2)
                    have y3 := y2.set_ 2 (.int .i64 a.f2)
                    have z3 := z2.far (a := ⟨P, 2, none⟩) (show Q ≠ P by omega) (.int .i64 a.f2)
                    have o4 := o3.apart (i := 3) y3 (.int .i64 (max (a.f3 - ye / (5 * a.f4)) 0))
                    have y4 := y3.set_ 3 (.int .i64 (max (a.f3 - ye / (5 * a.f4)) 0))
                    have z4 := z3.far (a := ⟨P, 3, none⟩) (show Q ≠ P by omega) (.int .i64 (max (a.f3 - ye / (5 * a.f4)) 0))
                    have o5 := o4.apart (i := 4) y4 (.int .i64 a.f4)
                    have y5 := y4.set_ 4 (.int .i64 a.f4)
                    have z5 := z4.far (a := ⟨P, 4, none⟩) (show Q ≠ P by omega) (.int .i64 a.f4)
                    replace HB := Lib.hid (((((HB.out.setCell (p := ⟨P, 0, none⟩) hwz12 (.int .i64 a.f0)).setCell (p := ⟨P, 1, none⟩) hwz12 (.string a.f1)).setCell (p := ⟨P, 2, none⟩) hwz12 (.int .i64 a.f2)).setCell (p := ⟨P, 3, none⟩) hwz12 (.int .i64 (max (a.f3 - ye / (5 * a.f4)) 0))).setCell (p := ⟨P, 4, none⟩) hwz12 (.int .i64 a.f4))
                    have hbk := ((((((Below.refl (b_ + 1) wl).setCell (p := ⟨P, 0, none⟩) hbz12 (.int .i64 a.f0)).setCell (p := ⟨P, 1, none⟩) hbz12 (.string a.f1)).setCell (p := ⟨P, 2, none⟩) hbz12 (.int .i64 a.f2)).setCell (p := ⟨P, 3, none⟩) hbz12 (.int .i64 (max (a.f3 - ye / (5 * a.f4)) 0))).setCell (p := ⟨P, 4, none⟩) hbz12 (.int .i64 a.f4))
                    replace ga0 := cells_of hbk ga0 (Nat.lt_succ_self _)
                    replace ga1 := cells_of hbk ga1 (Nat.lt_succ_self _)
                    replace ga2 := cells_of hbk ga2 (Nat.lt_succ_self _)
                    replace ga3 := cells_of hbk ga3 (Nat.lt_succ_self _)
                    replace ga4 := cells_of hbk ga4 (Nat.lt_succ_self _)
                    replace gs0 := cells_of hbk gs0 (Nat.lt_succ_self _)
                    replace gs1 := cells_of hbk gs1 (Nat.lt_succ_self _)
                    replace gs2 := cells_of hbk gs2 (Nat.lt_succ_self _)
                    replace gs3 := cells_of hbk gs3 (Nat.lt_succ_self _)
                    replace gs4 := cells_of hbk gs4 (Nat.lt_succ_self _)
                    refine wpAnyH_ready (rs := [14]) (by kernel_rfl) (by simp) ?_
                    refine AllReadyH.cons rfl (fun K hK => ?_) AllReadyH.nil
                    go_simp
                    refine hK.out _ _ (by exact ⟨ga0, ga1, ga2, ga3, ga4, gs0, gs1, gs2, gs3, gs4⟩) (fun hHeld => ?_)
                    clear hK K
                    (try simp only [Act.put, List.getElem_toArray, List.getElem_cons_zero, List.getElem_cons_succ, List.setIfInBounds_toArray, List.set_cons_zero, List.set_cons_succ])
                    replace x11 : Blk (((((wl.setCell ⟨P, 0, none⟩ (.int .i64 a.f0)).setCell ⟨P, 1, none⟩ (.string a.f1)).setCell ⟨P, 2, none⟩ (.int .i64 a.f2)).setCell ⟨P, 3, none⟩ (.int .i64 (max (a.f3 - ye / (5 * a.f4)) 0))).setCell ⟨P, 4, none⟩ (.int .i64 a.f4)) P 30 #[.int .i64 a.f0, .string a.f1, .int .i64 a.f2, .int .i64 (max (a.f3 - ye / (5 * a.f4)) 0), .int .i64 a.f4] := y5
                    replace x12 := z5
                    replace ho := o5
                    clear y0 y1 y2 y3 y4 y5 z0 z1 z2 z3 z4 z5 o0 o1 o2 o3 o4 o5 c0 f0 c1 f1 c2 f2 c3 f3 c4 f4 hbk hzz
                    generalize (((((wl.setCell ⟨P, 0, none⟩ (.int .i64 a.f0)).setCell ⟨P, 1, none⟩ (.string a.f1)).setCell ⟨P, 2, none⟩ (.int .i64 a.f2)).setCell ⟨P, 3, none⟩ (.int .i64 (max (a.f3 - ye / (5 * a.f4)) 0))).setCell ⟨P, 4, none⟩ (.int .i64 a.f4)) = wP9 at *
                    have hzz := x12.lt
                    have c0 := x12.cell 0
                    have f0 := x12.frozen 0
                    have c1 := x12.cell 1
                    have f1 := x12.frozen 1
                    have c2 := x12.cell 2
                    have f2 := x12.frozen 2
                    have c3 := x12.cell 3
                    have f3 := x12.frozen 3
                    have c4 := x12.cell 4
                    have f4 := x12.frozen 4
                    have y0 := x12
                    have z0 := x11
                    have o0 := ho
                    have o1 := o0.apart (i := 0) y0 (.int .i64 s.f0)
                    have y1 := y0.set_ 0 (.int .i64 s.f0)
                    have z1 := z0.far (a := ⟨Q, 0, none⟩) (show P ≠ Q by omega) (.int .i64 s.f0)
                    have o2 := o1.apart (i := 1) y1 (.string s.f1)
                    have y2 := y1.set_ 1 (.string s.f1)
                    have z2 := z1.far (a := ⟨Q, 1, none⟩) (show P ≠ Q by omega) (.string s.f1)
                    have o3 := o2.apart (i := 2) y2 (.int .i64 s.f2)
                    have y3 := y2.set_ 2 (.int .i64 s.f2)
                    have z3 := z2.far (a := ⟨Q, 2, none⟩) (show P ≠ Q by omega) (.int .i64 s.f2)
                    have o4 := o3.apart (i := 3) y3 (.int .i64 (max (s.f3 - ye / (5 * s.f4)) 0))
                    have y4 := y3.set_ 3 (.int .i64 (max (s.f3 - ye / (5 * s.f4)) 0))
                    have z4 := z3.far (a := ⟨Q, 3, none⟩) (show P ≠ Q by omega) (.int .i64 (max (s.f3 - ye / (5 * s.f4)) 0))
                    have o5 := o4.apart (i := 4) y4 (.int .i64 s.f4)
                    have y5 := y4.set_ 4 (.int .i64 s.f4)
                    have z5 := z4.far (a := ⟨Q, 4, none⟩) (show P ≠ Q by omega) (.int .i64 s.f4)
                    replace HB := Lib.hid (((((HB.out.setCell (p := ⟨Q, 0, none⟩) hwz13 (.int .i64 s.f0)).setCell (p := ⟨Q, 1, none⟩) hwz13 (.string s.f1)).setCell (p := ⟨Q, 2, none⟩) hwz13 (.int .i64 s.f2)).setCell (p := ⟨Q, 3, none⟩) hwz13 (.int .i64 (max (s.f3 - ye / (5 * s.f4)) 0))).setCell (p := ⟨Q, 4, none⟩) hwz13 (.int .i64 s.f4))
                    have hbk := ((((((Below.refl (b_ + 1) wP9).setCell (p := ⟨Q, 0, none⟩) hbz13 (.int .i64 s.f0)).setCell (p := ⟨Q, 1, none⟩) hbz13 (.string s.f1)).setCell (p := ⟨Q, 2, none⟩) hbz13 (.int .i64 s.f2)).setCell (p := ⟨Q, 3, none⟩) hbz13 (.int .i64 (max (s.f3 - ye / (5 * s.f4)) 0))).setCell (p := ⟨Q, 4, none⟩) hbz13 (.int .i64 s.f4))
                    replace ga0 := cells_of hbk ga0 (Nat.lt_succ_self _)
                    replace ga1 := cells_of hbk ga1 (Nat.lt_succ_self _)
                    replace ga2 := cells_of hbk ga2 (Nat.lt_succ_self _)
                    replace ga3 := cells_of hbk ga3 (Nat.lt_succ_self _)
                    replace ga4 := cells_of hbk ga4 (Nat.lt_succ_self _)
                    replace gs0 := cells_of hbk gs0 (Nat.lt_succ_self _)
                    replace gs1 := cells_of hbk gs1 (Nat.lt_succ_self _)
                    replace gs2 := cells_of hbk gs2 (Nat.lt_succ_self _)
                    replace gs3 := cells_of hbk gs3 (Nat.lt_succ_self _)
                    replace gs4 := cells_of hbk gs4 (Nat.lt_succ_self _)
                    refine wpAnyH_ready (rs := [15]) (by kernel_rfl) (by simp) ?_
                    refine AllReadyH.cons rfl (fun K hK => ?_) AllReadyH.nil
                    go_simp
                    refine hK.out _ _ (by exact ⟨ga0, ga1, ga2, ga3, ga4, gs0, gs1, gs2, gs3, gs4⟩) (fun hHeld => ?_)
                    clear hK K
                    (try simp only [Act.put, List.getElem_toArray, List.getElem_cons_zero, List.getElem_cons_succ, List.setIfInBounds_toArray, List.set_cons_zero, List.set_cons_succ])
                    replace x12 : Blk (((((wP9.setCell ⟨Q, 0, none⟩ (.int .i64 s.f0)).setCell ⟨Q, 1, none⟩ (.string s.f1)).setCell ⟨Q, 2, none⟩ (.int .i64 s.f2)).setCell ⟨Q, 3, none⟩ (.int .i64 (max (s.f3 - ye / (5 * s.f4)) 0))).setCell ⟨Q, 4, none⟩ (.int .i64 s.f4)) Q 30 #[.int .i64 s.f0, .string s.f1, .int .i64 s.f2, .int .i64 (max (s.f3 - ye / (5 * s.f4)) 0), .int .i64 s.f4] := y5
                    replace x11 := z5
                    replace ho := o5
                    clear y0 y1 y2 y3 y4 y5 z0 z1 z2 z3 z4 z5 o0 o1 o2 o3 o4 o5 c0 f0 c1 f1 c2 f2 c3 f3 c4 f4 hbk hzz
                    generalize (((((wP9.setCell ⟨Q, 0, none⟩ (.int .i64 s.f0)).setCell ⟨Q, 1, none⟩ (.string s.f1)).setCell ⟨Q, 2, none⟩ (.int .i64 s.f2)).setCell ⟨Q, 3, none⟩ (.int .i64 (max (s.f3 - ye / (5 * s.f4)) 0))).setCell ⟨Q, 4, none⟩ (.int .i64 s.f4)) = wQ9 at *
                    refine wpAnyH_done (by kernel_rfl) ?_ _
                    refine NoPanic.normal ?_
                    go_wp2_with fail
                    go_meet
                    exact ⟨rfl, P, Q, rfl, rfl, x11, x12, ho, HB.out⟩
              · go_simp
                replace ga0 := (World.cell?_alloc_lt w11 (.cells #[.int .i64 0, .string ⟨#[]⟩, .int .i64 0, .int .i64 0, .int .i64 0] 30) ⟨b_, _, none⟩ hbw).trans ga0
                replace ga1 := (World.cell?_alloc_lt w11 (.cells #[.int .i64 0, .string ⟨#[]⟩, .int .i64 0, .int .i64 0, .int .i64 0] 30) ⟨b_, _, none⟩ hbw).trans ga1
                replace ga2 := (World.cell?_alloc_lt w11 (.cells #[.int .i64 0, .string ⟨#[]⟩, .int .i64 0, .int .i64 0, .int .i64 0] 30) ⟨b_, _, none⟩ hbw).trans ga2
                replace ga3 := (World.cell?_alloc_lt w11 (.cells #[.int .i64 0, .string ⟨#[]⟩, .int .i64 0, .int .i64 0, .int .i64 0] 30) ⟨b_, _, none⟩ hbw).trans ga3
                replace ga4 := (World.cell?_alloc_lt w11 (.cells #[.int .i64 0, .string ⟨#[]⟩, .int .i64 0, .int .i64 0, .int .i64 0] 30) ⟨b_, _, none⟩ hbw).trans ga4
                replace gs0 := (World.cell?_alloc_lt w11 (.cells #[.int .i64 0, .string ⟨#[]⟩, .int .i64 0, .int .i64 0, .int .i64 0] 30) ⟨b_, _, none⟩ hbw).trans gs0
                replace gs1 := (World.cell?_alloc_lt w11 (.cells #[.int .i64 0, .string ⟨#[]⟩, .int .i64 0, .int .i64 0, .int .i64 0] 30) ⟨b_, _, none⟩ hbw).trans gs1
                replace gs2 := (World.cell?_alloc_lt w11 (.cells #[.int .i64 0, .string ⟨#[]⟩, .int .i64 0, .int .i64 0, .int .i64 0] 30) ⟨b_, _, none⟩ hbw).trans gs2
                replace gs3 := (World.cell?_alloc_lt w11 (.cells #[.int .i64 0, .string ⟨#[]⟩, .int .i64 0, .int .i64 0, .int .i64 0] 30) ⟨b_, _, none⟩ hbw).trans gs3
                replace gs4 := (World.cell?_alloc_lt w11 (.cells #[.int .i64 0, .string ⟨#[]⟩, .int .i64 0, .int .i64 0, .int .i64 0] 30) ⟨b_, _, none⟩ hbw).trans gs4
                have x11 := Blk.new w11 #[.int .i64 0, .string ⟨#[]⟩, .int .i64 0, .int .i64 0, .int .i64 0] 30
                have hbz12 : b_ < w11.heap.size := hbw
                have hwz12 : w.heap.size ≤ w11.heap.size := HB.out.size
                replace ho := ho.all ((Below.refl w11.heap.size w11).alloc (Nat.le_refl _) (.cells #[.int .i64 0, .string ⟨#[]⟩, .int .i64 0, .int .i64 0, .int .i64 0] 30))
                replace HB := Lib.hid (HB.out.alloc HB.out.size (.cells #[.int .i64 0, .string ⟨#[]⟩, .int .i64 0, .int .i64 0, .int .i64 0] 30))
                replace hbw : b_ < (w11.alloc (.cells #[.int .i64 0, .string ⟨#[]⟩, .int .i64 0, .int .i64 0, .int .i64 0] 30)).heap.size := Nat.lt_of_lt_of_le hbw (by simp)
                refine hK.out _ _ (by exact ⟨ga0, ga1, ga2, ga3, ga4, gs0, gs1, gs2, gs3, gs4⟩) (fun hHeld => ?_)
                clear hK K
                (try simp only [Act.put, List.getElem_toArray, List.getElem_cons_zero, List.getElem_cons_succ, List.setIfInBounds_toArray, List.set_cons_zero, List.set_cons_succ])
                refine wpAnyH_ready (rs := [11, 13]) (by kernel_rfl) (by simp) ?_
                refine AllReadyH.cons rfl (fun K hK => ?_) (AllReadyH.cons rfl (fun K hK => ?_) (AllReadyH.nil))
                · go_simp
                  (with_reducible refine (l3Faded_any s ye _ hs2 hs4 hy).mono ?_)
                  rintro e w12 ⟨rfl, hb5⟩
                  replace ga0 := cells_of hb5 ga0 hbw
                  replace ga1 := cells_of hb5 ga1 hbw
                  replace ga2 := cells_of hb5 ga2 hbw
                  replace ga3 := cells_of hb5 ga3 hbw
                  replace ga4 := cells_of hb5 ga4 hbw
                  replace gs0 := cells_of hb5 gs0 hbw
                  replace gs1 := cells_of hb5 gs1 hbw
                  replace gs2 := cells_of hb5 gs2 hbw
                  replace gs3 := cells_of hb5 gs3 hbw
                  replace gs4 := cells_of hb5 gs4 hbw
                  replace x11 := x11.all hb5
                  replace hbw := Nat.lt_of_lt_of_le hbw hb5.size
                  replace ho := ho.all hb5
                  replace HB := Lib.hid (HB.out.trans (hb5.mono HB.out.size))
                  clear hb5
                  refine hK.out _ _ (by exact ⟨ga0, ga1, ga2, ga3, ga4, gs0, gs1, gs2, gs3, gs4⟩) (fun hHeld => ?_)
                  clear hK K
                  (try simp only [Act.put, List.getElem_toArray, List.getElem_cons_zero, List.getElem_cons_succ, List.setIfInBounds_toArray, List.set_cons_zero, List.set_cons_succ])
                  refine wpAnyH_ready (rs := [13]) (by kernel_rfl) (by simp) ?_
                  refine AllReadyH.cons rfl (fun K hK => ?_) (AllReadyH.nil)
                  · go_simp
                    have hpq : w11.heap.size < w12.heap.size := x11.lt
                    replace ga0 := (World.cell?_alloc_lt w12 (.cells #[.int .i64 0, .string ⟨#[]⟩, .int .i64 0, .int .i64 0, .int .i64 0] 30) ⟨b_, _, none⟩ hbw).trans ga0
                    replace ga1 := (World.cell?_alloc_lt w12 (.cells #[.int .i64 0, .string ⟨#[]⟩, .int .i64 0, .int .i64 0, .int .i64 0] 30) ⟨b_, _, none⟩ hbw).trans ga1
                    replace ga2 := (World.cell?_alloc_lt w12 (.cells #[.int .i64 0, .string ⟨#[]⟩, .int .i64 0, .int .i64 0, .int .i64 0] 30) ⟨b_, _, none⟩ hbw).trans ga2
                    replace ga3 := (World.cell?_alloc_lt w12 (.cells #[.int .i64 0, .string ⟨#[]⟩, .int .i64 0, .int .i64 0, .int .i64 0] 30) ⟨b_, _, none⟩ hbw).trans ga3
                    replace ga4 := (World.cell?_alloc_lt w12 (.cells #[.int .i64 0, .string ⟨#[]⟩, .int .i64 0, .int .i64 0, .int .i64 0] 30) ⟨b_, _, none⟩ hbw).trans ga4
                    replace gs0 := (World.cell?_alloc_lt w12 (.cells #[.int .i64 0, .string ⟨#[]⟩, .int .i64 0, .int .i64 0, .int .i64 0] 30) ⟨b_, _, none⟩ hbw).trans gs0
                    replace gs1 := (World.cell?_alloc_lt w12 (.cells #[.int .i64 0, .string ⟨#[]⟩, .int .i64 0, .int .i64 0, .int .i64 0] 30) ⟨b_, _, none⟩ hbw).trans gs1
                    replace gs2 := (World.cell?_alloc_lt w12 (.cells #[.int .i64 0, .string ⟨#[]⟩, .int .i64 0, .int .i64 0, .int .i64 0] 30) ⟨b_, _, none⟩ hbw).trans gs2
                    replace gs3 := (World.cell?_alloc_lt w12 (.cells #[.int .i64 0, .string ⟨#[]⟩, .int .i64 0, .int .i64 0, .int .i64 0] 30) ⟨b_, _, none⟩ hbw).trans gs3
                    replace gs4 := (World.cell?_alloc_lt w12 (.cells #[.int .i64 0, .string ⟨#[]⟩, .int .i64 0, .int .i64 0, .int .i64 0] 30) ⟨b_, _, none⟩ hbw).trans gs4
                    replace x11 := x11.alloc (.cells #[.int .i64 0, .string ⟨#[]⟩, .int .i64 0, .int .i64 0, .int .i64 0] 30)
                    have x12 := Blk.new w12 #[.int .i64 0, .string ⟨#[]⟩, .int .i64 0, .int .i64 0, .int .i64 0] 30
                    have hbz13 : b_ < w12.heap.size := hbw
                    have hwz13 : w.heap.size ≤ w12.heap.size := HB.out.size
                    replace ho := ho.all ((Below.refl w12.heap.size w12).alloc (Nat.le_refl _) (.cells #[.int .i64 0, .string ⟨#[]⟩, .int .i64 0, .int .i64 0, .int .i64 0] 30))
                    replace HB := Lib.hid (HB.out.alloc HB.out.size (.cells #[.int .i64 0, .string ⟨#[]⟩, .int .i64 0, .int .i64 0, .int .i64 0] 30))
                    replace hbw : b_ < (w12.alloc (.cells #[.int .i64 0, .string ⟨#[]⟩, .int .i64 0, .int .i64 0, .int .i64 0] 30)).heap.size := Nat.lt_of_lt_of_le hbw (by simp)
                    refine hK.out _ _ (by exact ⟨ga0, ga1, ga2, ga3, ga4, gs0, gs1, gs2, gs3, gs4⟩) (fun hHeld => ?_)
                    clear hK K
                    (try simp only [Act.put, List.getElem_toArray, List.getElem_cons_zero, List.getElem_cons_succ, List.setIfInBounds_toArray, List.set_cons_zero, List.set_cons_succ])
                    generalize (w12.alloc (.cells #[.int .i64 0, .string ⟨#[]⟩, .int .i64 0, .int .i64 0, .int .i64 0] 30)) = wl at *
                    have hne0 : w11.heap.size ≠ w12.heap.size := by omega
                    clear hpq
                    obtain ⟨Q, hQ⟩ : ∃ Q, w12.heap.size = Q := ⟨_, rfl⟩
                    rw [hQ] at x12 hbz13 hwz13 hne0 ⊢
                    clear hQ
                    obtain ⟨P, hP⟩ : ∃ P, w11.heap.size = P := ⟨_, rfl⟩
                    rw [hP] at x11 hbz12 hwz12 hne0 ⊢
                    clear hP
                    have hne : P ≠ Q := hne0
                    have hzz := x11.lt
                    have c0 := x11.cell 0
                    have f0 := x11.frozen 0
                    have c1 := x11.cell 1
                    have f1 := x11.frozen 1
                    have c2 := x11.cell 2
                    have f2 := x11.frozen 2
                    have c3 := x11.cell 3
                    have f3 := x11.frozen 3
                    have c4 := x11.cell 4
                    have f4 := x11.frozen 4
                    have y0 := x11
                    have z0 := x12
                    have o0 := ho
                    have o1 := o0.apart (i := 0) y0 (.int .i64 a.f0)
                    have y1 := y0.set_ 0 (.int .i64 a.f0)
                    have z1 := z0.far (a := ⟨P, 0, none⟩) (show Q ≠ P by omega) (.int .i64 a.f0)
                    have o2 := o1.apart (i := 1) y1 (.string a.f1)
                    have y2 := y1.set_ 1 (.string a.f1)
                    have z2 := z1.far (a := ⟨P, 1, none⟩) (show Q ≠ P by omega) (.string a.f1)
                    have o3 := o2.apart (i := 2) y2 (.int .i64 a.f2)
                    have y3 := y2.set_ 2 (.int .i64 a.f2)
                    have z3 := z2.far (a := ⟨P, 2, none⟩) (show Q ≠ P by omega) (.int .i64 a.f2)
                    have o4 := o3.apart (i := 3) y3 (.int .i64 (max (a.f3 - ye / (5 * a.f4)) 0))
                    have y4 := y3.set_ 3 (.int .i64 (max (a.f3 - ye / (5 * a.f4)) 0))
                    have z4 := z3.far (a := ⟨P, 3, none⟩) (show Q ≠ P by omega) (.int .i64 (max (a.f3 - ye / (5 * a.f4)) 0))
                    have o5 := o4.apart (i := 4) y4 (.int .i64 a.f4)
                    have y5 := y4.set_ 4 (.int .i64 a.f4)
                    have z5 := z4.far (a := ⟨P, 4, none⟩) (show Q ≠ P by omega) (.int .i64 a.f4)
                    replace HB := Lib.hid (((((HB.out.setCell (p := ⟨P, 0, none⟩) hwz12 (.int .i64 a.f0)).setCell (p := ⟨P, 1, none⟩) hwz12 (.string a.f1)).setCell (p := ⟨P, 2, none⟩) hwz12 (.int .i64 a.f2)).setCell (p := ⟨P, 3, none⟩) hwz12 (.int .i64 (max (a.f3 - ye / (5 * a.f4)) 0))).setCell (p := ⟨P, 4, none⟩) hwz12 (.int .i64 a.f4))
                    have hbk := ((((((Below.refl (b_ + 1) wl).setCell (p := ⟨P, 0, none⟩) hbz12 (.int .i64 a.f0)).setCell (p := ⟨P, 1, none⟩) hbz12 (.string a.f1)).setCell (p := ⟨P, 2, none⟩) hbz12 (.int .i64 a.f2)).setCell (p := ⟨P, 3, none⟩) hbz12 (.int .i64 (max (a.f3 - ye / (5 * a.f4)) 0))).setCell (p := ⟨P, 4, none⟩) hbz12 (.int .i64 a.f4))
                    replace ga0 := cells_of hbk ga0 (Nat.lt_succ_self _)
                    replace ga1 := cells_of hbk ga1 (Nat.lt_succ_self _)
                    replace ga2 := cells_of hbk ga2 (Nat.lt_succ_self _)
                    replace ga3 := cells_of hbk ga3 (Nat.lt_succ_self _)
                    replace ga4 := cells_of hbk ga4 (Nat.lt_succ_self _)
                    replace gs0 := cells_of hbk gs0 (Nat.lt_succ_self _)
                    replace gs1 := cells_of hbk gs1 (Nat.lt_succ_self _)
                    replace gs2 := cells_of hbk gs2 (Nat.lt_succ_self _)
                    replace gs3 := cells_of hbk gs3 (Nat.lt_succ_self _)
                    replace gs4 := cells_of hbk gs4 (Nat.lt_succ_self _)
                    refine wpAnyH_ready (rs := [14]) (by kernel_rfl) (by simp) ?_
                    refine AllReadyH.cons rfl (fun K hK => ?_) AllReadyH.nil
                    go_simp
                    refine hK.out _ _ (by exact ⟨ga0, ga1, ga2, ga3, ga4, gs0, gs1, gs2, gs3, gs4⟩) (fun hHeld => ?_)
                    clear hK K
                    (try simp only [Act.put, List.getElem_toArray, List.getElem_cons_zero, List.getElem_cons_succ, List.setIfInBounds_toArray, List.set_cons_zero, List.set_cons_succ])
                    replace x11 : Blk (((((wl.setCell ⟨P, 0, none⟩ (.int .i64 a.f0)).setCell ⟨P, 1, none⟩ (.string a.f1)).setCell ⟨P, 2, none⟩ (.int .i64 a.f2)).setCell ⟨P, 3, none⟩ (.int .i64 (max (a.f3 - ye / (5 * a.f4)) 0))).setCell ⟨P, 4, none⟩ (.int .i64 a.f4)) P 30 #[.int .i64 a.f0, .string a.f1, .int .i64 a.f2, .int .i64 (max (a.f3 - ye / (5 * a.f4)) 0), .int .i64 a.f4] := y5
                    replace x12 := z5
                    replace ho := o5
                    clear y0 y1 y2 y3 y4 y5 z0 z1 z2 z3 z4 z5 o0 o1 o2 o3 o4 o5 c0 f0 c1 f1 c2 f2 c3 f3 c4 f4 hbk hzz
                    generalize (((((wl.setCell ⟨P, 0, none⟩ (.int .i64 a.f0)).setCell ⟨P, 1, none⟩ (.string a.f1)).setCell ⟨P, 2, none⟩ (.int .i64 a.f2)).setCell ⟨P, 3, none⟩ (.int .i64 (max (a.f3 - ye / (5 * a.f4)) 0))).setCell ⟨P, 4, none⟩ (.int .i64 a.f4)) = wP9 at *
                    have hzz := x12.lt
                    have c0 := x12.cell 0
                    have f0 := x12.frozen 0
                    have c1 := x12.cell 1
                    have f1 := x12.frozen 1
                    have c2 := x12.cell 2
                    have f2 := x12.frozen 2
                    have c3 := x12.cell 3
                    have f3 := x12.frozen 3
                    have c4 := x12.cell 4
                    have f4 := x12.frozen 4
                    have y0 := x12
                    have z0 := x11
                    have o0 := ho
                    have o1 := o0.apart (i := 0) y0 (.int .i64 s.f0)
                    have y1 := y0.set_ 0 (.int .i64 s.f0)
                    have z1 := z0.far (a := ⟨Q, 0, none⟩) (show P ≠ Q by omega) (.int .i64 s.f0)
                    have o2 := o1.apart (i := 1) y1 (.string s.f1)
                    have y2 := y1.set_ 1 (.string s.f1)
                    have z2 := z1.far (a := ⟨Q, 1, none⟩) (show P ≠ Q by omega) (.string s.f1)
                    have o3 := o2.apart (i := 2) y2 (.int .i64 s.f2)
                    have y3 := y2.set_ 2 (.int .i64 s.f2)
                    have z3 := z2.far (a := ⟨Q, 2, none⟩) (show P ≠ Q by omega) (.int .i64 s.f2)
                    have o4 := o3.apart (i := 3) y3 (.int .i64 (max (s.f3 - ye / (5 * s.f4)) 0))
                    have y4 := y3.set_ 3 (.int .i64 (max (s.f3 - ye / (5 * s.f4)) 0))
                    have z4 := z3.far (a := ⟨Q, 3, none⟩) (show P ≠ Q by omega) (.int .i64 (max (s.f3 - ye / (5 * s.f4)) 0))
                    have o5 := o4.apart (i := 4) y4 (.int .i64 s.f4)
                    have y5 := y4.set_ 4 (.int .i64 s.f4)
                    have z5 := z4.far (a := ⟨Q, 4, none⟩) (show P ≠ Q by omega) (.int .i64 s.f4)
                    replace HB := Lib.hid (((((HB.out.setCell (p := ⟨Q, 0, none⟩) hwz13 (.int .i64 s.f0)).setCell (p := ⟨Q, 1, none⟩) hwz13 (.string s.f1)).setCell (p := ⟨Q, 2, none⟩) hwz13 (.int .i64 s.f2)).setCell (p := ⟨Q, 3, none⟩) hwz13 (.int .i64 (max (s.f3 - ye / (5 * s.f4)) 0))).setCell (p := ⟨Q, 4, none⟩) hwz13 (.int .i64 s.f4))
                    have hbk := ((((((Below.refl (b_ + 1) wP9).setCell (p := ⟨Q, 0, none⟩) hbz13 (.int .i64 s.f0)).setCell (p := ⟨Q, 1, none⟩) hbz13 (.string s.f1)).setCell (p := ⟨Q, 2, none⟩) hbz13 (.int .i64 s.f2)).setCell (p := ⟨Q, 3, none⟩) hbz13 (.int .i64 (max (s.f3 - ye / (5 * s.f4)) 0))).setCell (p := ⟨Q, 4, none⟩) hbz13 (.int .i64 s.f4))
                    replace ga0 := cells_of hbk ga0 (Nat.lt_succ_self _)
                    replace ga1 := cells_of hbk ga1 (Nat.lt_succ_self _)
                    replace ga2 := cells_of hbk ga2 (Nat.lt_succ_self _)
                    replace ga3 := cells_of hbk ga3 (Nat.lt_succ_self _)
                    replace ga4 := cells_of hbk ga4 (Nat.lt_succ_self _)
                    replace gs0 := cells_of hbk gs0 (Nat.lt_succ_self _)
                    replace gs1 := cells_of hbk gs1 (Nat.lt_succ_self _)
                    replace gs2 := cells_of hbk gs2 (Nat.lt_succ_self _)
                    replace gs3 := cells_of hbk gs3 (Nat.lt_succ_self _)
                    replace gs4 := cells_of hbk gs4 (Nat.lt_succ_self _)
                    refine wpAnyH_ready (rs := [15]) (by kernel_rfl) (by simp) ?_
                    refine AllReadyH.cons rfl (fun K hK => ?_) AllReadyH.nil
                    go_simp
                    refine hK.out _ _ (by exact ⟨ga0, ga1, ga2, ga3, ga4, gs0, gs1, gs2, gs3, gs4⟩) (fun hHeld => ?_)
                    clear hK K
                    (try simp only [Act.put, List.getElem_toArray, List.getElem_cons_zero, List.getElem_cons_succ, List.setIfInBounds_toArray, List.set_cons_zero, List.set_cons_succ])
                    replace x12 : Blk (((((wP9.setCell ⟨Q, 0, none⟩ (.int .i64 s.f0)).setCell ⟨Q, 1, none⟩ (.string s.f1)).setCell ⟨Q, 2, none⟩ (.int .i64 s.f2)).setCell ⟨Q, 3, none⟩ (.int .i64 (max (s.f3 - ye / (5 * s.f4)) 0))).setCell ⟨Q, 4, none⟩ (.int .i64 s.f4)) Q 30 #[.int .i64 s.f0, .string s.f1, .int .i64 s.f2, .int .i64 (max (s.f3 - ye / (5 * s.f4)) 0), .int .i64 s.f4] := y5
                    replace x11 := z5
                    replace ho := o5
                    clear y0 y1 y2 y3 y4 y5 z0 z1 z2 z3 z4 z5 o0 o1 o2 o3 o4 o5 c0 f0 c1 f1 c2 f2 c3 f3 c4 f4 hbk hzz
                    generalize (((((wP9.setCell ⟨Q, 0, none⟩ (.int .i64 s.f0)).setCell ⟨Q, 1, none⟩ (.string s.f1)).setCell ⟨Q, 2, none⟩ (.int .i64 s.f2)).setCell ⟨Q, 3, none⟩ (.int .i64 (max (s.f3 - ye / (5 * s.f4)) 0))).setCell ⟨Q, 4, none⟩ (.int .i64 s.f4)) = wQ9 at *
                    refine wpAnyH_done (by kernel_rfl) ?_ _
                    refine NoPanic.normal ?_
                    go_wp2_with fail
                    go_meet
                    exact ⟨rfl, P, Q, rfl, rfl, x11, x12, ho, HB.out⟩
                · go_simp
                  have hpq : w11.heap.size < (w11.alloc (.cells #[.int .i64 0, .string ⟨#[]⟩, .int .i64 0, .int .i64 0, .int .i64 0] 30)).heap.size := x11.lt
                  replace ga0 := (World.cell?_alloc_lt (w11.alloc (.cells #[.int .i64 0, .string ⟨#[]⟩, .int .i64 0, .int .i64 0, .int .i64 0] 30)) (.cells #[.int .i64 0, .string ⟨#[]⟩, .int .i64 0, .int .i64 0, .int .i64 0] 30) ⟨b_, _, none⟩ hbw).trans ga0
                  replace ga1 := (World.cell?_alloc_lt (w11.alloc (.cells #[.int .i64 0, .string ⟨#[]⟩, .int .i64 0, .int .i64 0, .int .i64 0] 30)) (.cells #[.int .i64 0, .string ⟨#[]⟩, .int .i64 0, .int .i64 0, .int .i64 0] 30) ⟨b_, _, none⟩ hbw).trans ga1
                  replace ga2 := (World.cell?_alloc_lt (w11.alloc (.cells #[.int .i64 0, .string ⟨#[]⟩, .int .i64 0, .int .i64 0, .int .i64 0] 30)) (.cells #[.int .i64 0, .string ⟨#[]⟩, .int .i64 0, .int .i64 0, .int .i64 0] 30) ⟨b_, _, none⟩ hbw).trans ga2
                  replace ga3 := (World.cell?_alloc_lt (w11.alloc (.cells #[.int .i64 0, .string ⟨#[]⟩, .int .i64 0, .int .i64 0, .int .i64 0] 30)) (.cells #[.int .i64 0, .string ⟨#[]⟩, .int .i64 0, .int .i64 0, .int .i64 0] 30) ⟨b_, _, none⟩ hbw).trans ga3
                  replace ga4 := (World.cell?_alloc_lt (w11.alloc (.cells #[.int .i64 0, .string ⟨#[]⟩, .int .i64 0, .int .i64 0, .int .i64 0] 30)) (.cells #[.int .i64 0, .string ⟨#[]⟩, .int .i64 0, .int .i64 0, .int .i64 0] 30) ⟨b_, _, none⟩ hbw).trans ga4
                  replace gs0 := (World.cell?_alloc_lt (w11.alloc (.cells #[.int .i64 0, .string ⟨#[]⟩, .int .i64 0, .int .i64 0, .int .i64 0] 30)) (.cells #[.int .i64 0, .string ⟨#[]⟩, .int .i64 0, .int .i64 0, .int .i64 0] 30) ⟨b_, _, none⟩ hbw).trans gs0
                  replace gs1 := (World.cell?_alloc_lt (w11.alloc (.cells #[.int .i64 0, .string ⟨#[]⟩, .int .i64 0, .int .i64 0, .int .i64 0] 30)) (.cells #[.int .i64 0, .string ⟨#[]⟩, .int .i64 0, .int .i64 0, .int .i64 0] 30) ⟨b_, _, none⟩ hbw).trans gs1
                  replace gs2 := (World.cell?_alloc_lt (w11.alloc (.cells #[.int .i64 0, .string ⟨#[]⟩, .int .i64 0, .int .i64 0, .int .i64 0] 30)) (.cells #[.int .i64 0, .string ⟨#[]⟩, .int .i64 0, .int .i64 0, .int .i64 0] 30) ⟨b_, _, none⟩ hbw).trans gs2
                  replace gs3 := (World.cell?_alloc_lt (w11.alloc (.cells #[.int .i64 0, .string ⟨#[]⟩, .int .i64 0, .int .i64 0, .int .i64 0] 30)) (.cells #[.int .i64 0, .string ⟨#[]⟩, .int .i64 0, .int .i64 0, .int .i64 0] 30) ⟨b_, _, none⟩ hbw).trans gs3
                  replace gs4 := (World.cell?_alloc_lt (w11.alloc (.cells #[.int .i64 0, .string ⟨#[]⟩, .int .i64 0, .int .i64 0, .int .i64 0] 30)) (.cells #[.int .i64 0, .string ⟨#[]⟩, .int .i64 0, .int .i64 0, .int .i64 0] 30) ⟨b_, _, none⟩ hbw).trans gs4
                  replace x11 := x11.alloc (.cells #[.int .i64 0, .string ⟨#[]⟩, .int .i64 0, .int .i64 0, .int .i64 0] 30)
                  have x12 := Blk.new (w11.alloc (.cells #[.int .i64 0, .string ⟨#[]⟩, .int .i64 0, .int .i64 0, .int .i64 0] 30)) #[.int .i64 0, .string ⟨#[]⟩, .int .i64 0, .int .i64 0, .int .i64 0] 30
                  have hbz13 : b_ < (w11.alloc (.cells #[.int .i64 0, .string ⟨#[]⟩, .int .i64 0, .int .i64 0, .int .i64 0] 30)).heap.size := hbw
                  have hwz13 : w.heap.size ≤ (w11.alloc (.cells #[.int .i64 0, .string ⟨#[]⟩, .int .i64 0, .int .i64 0, .int .i64 0] 30)).heap.size := HB.out.size
                  rw [show (w11.alloc (.cells #[.int .i64 0, .string ⟨#[]⟩, .int .i64 0, .int .i64 0, .int .i64 0] 30)).heap.size = w11.heap.size + 1 by simp] at x12 hbz13 hwz13 hpq
                  replace ho := ho.all ((Below.refl (w11.alloc (.cells #[.int .i64 0, .string ⟨#[]⟩, .int .i64 0, .int .i64 0, .int .i64 0] 30)).heap.size (w11.alloc (.cells #[.int .i64 0, .string ⟨#[]⟩, .int .i64 0, .int .i64 0, .int .i64 0] 30))).alloc (Nat.le_refl _) (.cells #[.int .i64 0, .string ⟨#[]⟩, .int .i64 0, .int .i64 0, .int .i64 0] 30))
                  replace HB := Lib.hid (HB.out.alloc HB.out.size (.cells #[.int .i64 0, .string ⟨#[]⟩, .int .i64 0, .int .i64 0, .int .i64 0] 30))
                  replace hbw : b_ < ((w11.alloc (.cells #[.int .i64 0, .string ⟨#[]⟩, .int .i64 0, .int .i64 0, .int .i64 0] 30)).alloc (.cells #[.int .i64 0, .string ⟨#[]⟩, .int .i64 0, .int .i64 0, .int .i64 0] 30)).heap.size := Nat.lt_of_lt_of_le hbw (by simp)
                  refine hK.out _ _ (by exact ⟨ga0, ga1, ga2, ga3, ga4, gs0, gs1, gs2, gs3, gs4⟩) (fun hHeld => ?_)
                  clear hK K
                  (try simp only [Act.put, List.getElem_toArray, List.getElem_cons_zero, List.getElem_cons_succ, List.setIfInBounds_toArray, List.set_cons_zero, List.set_cons_succ])
                  refine wpAnyH_ready (rs := [11]) (by kernel_rfl) (by simp) ?_
                  refine AllReadyH.cons rfl (fun K hK => ?_) (AllReadyH.nil)
                  · go_simp
                    (with_reducible refine (l3Faded_any s ye _ hs2 hs4 hy).mono ?_)
                    rintro e w12 ⟨rfl, hb5⟩
                    replace ga0 := cells_of hb5 ga0 hbw
                    replace ga1 := cells_of hb5 ga1 hbw
                    replace ga2 := cells_of hb5 ga2 hbw
                    replace ga3 := cells_of hb5 ga3 hbw
                    replace ga4 := cells_of hb5 ga4 hbw
                    replace gs0 := cells_of hb5 gs0 hbw
                    replace gs1 := cells_of hb5 gs1 hbw
                    replace gs2 := cells_of hb5 gs2 hbw
                    replace gs3 := cells_of hb5 gs3 hbw
                    replace gs4 := cells_of hb5 gs4 hbw
                    replace x11 := x11.all hb5
                    replace x12 := x12.all hb5
                    replace hbw := Nat.lt_of_lt_of_le hbw hb5.size
                    replace ho := ho.all hb5
                    replace HB := Lib.hid (HB.out.trans (hb5.mono HB.out.size))
                    clear hb5
                    refine hK.out _ _ (by exact ⟨ga0, ga1, ga2, ga3, ga4, gs0, gs1, gs2, gs3, gs4⟩) (fun hHeld => ?_)
                    clear hK K
                    (try simp only [Act.put, List.getElem_toArray, List.getElem_cons_zero, List.getElem_cons_succ, List.setIfInBounds_toArray, List.set_cons_zero, List.set_cons_succ])
                    have hne0 : w11.heap.size ≠ w11.heap.size + 1 := by omega
                    clear hpq
                    obtain ⟨Q, hQ⟩ : ∃ Q, w11.heap.size + 1 = Q := ⟨_, rfl⟩
                    rw [hQ] at x12 hbz13 hwz13 hne0 ⊢
                    clear hQ
                    obtain ⟨P, hP⟩ : ∃ P, w11.heap.size = P := ⟨_, rfl⟩
                    rw [hP] at x11 hbz12 hwz12 hne0 ⊢
                    clear hP
                    have hne : P ≠ Q := hne0
                    have hzz := x11.lt
                    have c0 := x11.cell 0
                    have f0 := x11.frozen 0
                    have c1 := x11.cell 1
                    have f1 := x11.frozen 1
                    have c2 := x11.cell 2
                    have f2 := x11.frozen 2
                    have c3 := x11.cell 3
                    have f3 := x11.frozen 3
                    have c4 := x11.cell 4
                    have f4 := x11.frozen 4
                    have y0 := x11
                    have z0 := x12
                    have o0 := ho
                    have o1 := o0.apart (i := 0) y0 (.int .i64 a.f0)
                    have y1 := y0.set_ 0 (.int .i64 a.f0)
                    have z1 := z0.far (a := ⟨P, 0, none⟩) (show Q ≠ P by omega) (.int .i64 a.f0)
                    have o2 := o1.apart (i := 1) y1 (.string a.f1)
                    have y2 := y1.set_ 1 (.string a.f1)
                    have z2 := z1.far (a := ⟨P, 1, none⟩) (show Q ≠ P by omega) (.string a.f1)
                    have o3 := o2.apart (i := 2) y2 (.int .i64 a.f2)
                    have y3 := y2.set_ 2 (.int .i64 a.f2)
                    have z3 := z2.far (a := ⟨P, 2, none⟩) (show Q ≠ P by omega) (.int .i64 a.f2)
                    have o4 := o3.apart (i := 3) y3 (.int .i64 (max (a.f3 - ye / (5 * a.f4)) 0))
                    have y4 := y3.set_ 3 (.int .i64 (max (a.f3 - ye / (5 * a.f4)) 0))
                    have z4 := z3.far (a := ⟨P, 3, none⟩) (show Q ≠ P by omega) (.int .i64 (max (a.f3 - ye / (5 * a.f4)) 0))
                    have o5 := o4.apart (i := 4) y4 (.int .i64 a.f4)
                    have y5 := y4.set_ 4 (.int .i64 a.f4)
                    have z5 := z4.far (a := ⟨P, 4, none⟩) (show Q ≠ P by omega) (.int .i64 a.f4)
                    replace HB := Lib.hid (((((HB.out.setCell (p := ⟨P, 0, none⟩) hwz12 (.int .i64 a.f0)).setCell (p := ⟨P, 1, none⟩) hwz12 (.string a.f1)).setCell (p := ⟨P, 2, none⟩) hwz12 (.int .i64 a.f2)).setCell (p := ⟨P, 3, none⟩) hwz12 (.int .i64 (max (a.f3 - ye / (5 * a.f4)) 0))).setCell (p := ⟨P, 4, none⟩) hwz12 (.int .i64 a.f4))
                    have hbk := ((((((Below.refl (b_ + 1) w12).setCell (p := ⟨P, 0, none⟩) hbz12 (.int .i64 a.f0)).setCell (p := ⟨P, 1, none⟩) hbz12 (.string a.f1)).setCell (p := ⟨P, 2, none⟩) hbz12 (.int .i64 a.f2)).setCell (p := ⟨P, 3, none⟩) hbz12 (.int .i64 (max (a.f3 - ye / (5 * a.f4)) 0))).setCell (p := ⟨P, 4, none⟩) hbz12 (.int .i64 a.f4))
                    replace ga0 := cells_of hbk ga0 (Nat.lt_succ_self _)
                    replace ga1 := cells_of hbk ga1 (Nat.lt_succ_self _)
                    replace ga2 := cells_of hbk ga2 (Nat.lt_succ_self _)
                    replace ga3 := cells_of hbk ga3 (Nat.lt_succ_self _)
                    replace ga4 := cells_of hbk ga4 (Nat.lt_succ_self _)
                    replace gs0 := cells_of hbk gs0 (Nat.lt_succ_self _)
                    replace gs1 := cells_of hbk gs1 (Nat.lt_succ_self _)
                    replace gs2 := cells_of hbk gs2 (Nat.lt_succ_self _)
                    replace gs3 := cells_of hbk gs3 (Nat.lt_succ_self _)
                    replace gs4 := cells_of hbk gs4 (Nat.lt_succ_self _)
                    refine wpAnyH_ready (rs := [14]) (by kernel_rfl) (by simp) ?_
                    refine AllReadyH.cons rfl (fun K hK => ?_) AllReadyH.nil
                    go_simp
                    refine hK.out _ _ (by exact ⟨ga0, ga1, ga2, ga3, ga4, gs0, gs1, gs2, gs3, gs4⟩) (fun hHeld => ?_)
                    clear hK K
                    (try simp only [Act.put, List.getElem_toArray, List.getElem_cons_zero, List.getElem_cons_succ, List.setIfInBounds_toArray, List.set_cons_zero, List.set_cons_succ])
                    replace x11 : Blk (((((w12.setCell ⟨P, 0, none⟩ (.int .i64 a.f0)).setCell ⟨P, 1, none⟩ (.string a.f1)).setCell ⟨P, 2, none⟩ (.int .i64 a.f2)).setCell ⟨P, 3, none⟩ (.int .i64 (max (a.f3 - ye / (5 * a.f4)) 0))).setCell ⟨P, 4, none⟩ (.int .i64 a.f4)) P 30 #[.int .i64 a.f0, .string a.f1, .int .i64 a.f2, .int .i64 (max (a.f3 - ye / (5 * a.f4)) 0), .int .i64 a.f4] := y5
                    replace x12 := z5
                    replace ho := o5
                    clear y0 y1 y2 y3 y4 y5 z0 z1 z2 z3 z4 z5 o0 o1 o2 o3 o4 o5 c0 f0 c1 f1 c2 f2 c3 f3 c4 f4 hbk hzz
                    generalize (((((w12.setCell ⟨P, 0, none⟩ (.int .i64 a.f0)).setCell ⟨P, 1, none⟩ (.string a.f1)).setCell ⟨P, 2, none⟩ (.int .i64 a.f2)).setCell ⟨P, 3, none⟩ (.int .i64 (max (a.f3 - ye / (5 * a.f4)) 0))).setCell ⟨P, 4, none⟩ (.int .i64 a.f4)) = wP9 at *
                    have hzz := x12.lt
                    have c0 := x12.cell 0
                    have f0 := x12.frozen 0
                    have c1 := x12.cell 1
                    have f1 := x12.frozen 1
                    have c2 := x12.cell 2
                    have f2 := x12.frozen 2
                    have c3 := x12.cell 3
                    have f3 := x12.frozen 3
                    have c4 := x12.cell 4
                    have f4 := x12.frozen 4
                    have y0 := x12
                    have z0 := x11
                    have o0 := ho
                    have o1 := o0.apart (i := 0) y0 (.int .i64 s.f0)
                    have y1 := y0.set_ 0 (.int .i64 s.f0)
                    have z1 := z0.far (a := ⟨Q, 0, none⟩) (show P ≠ Q by omega) (.int .i64 s.f0)
                    have o2 := o1.apart (i := 1) y1 (.string s.f1)
                    have y2 := y1.set_ 1 (.string s.f1)
                    have z2 := z1.far (a := ⟨Q, 1, none⟩) (show P ≠ Q by omega) (.string s.f1)
                    have o3 := o2.apart (i := 2) y2 (.int .i64 s.f2)
                    have y3 := y2.set_ 2 (.int .i64 s.f2)
                    have z3 := z2.far (a := ⟨Q, 2, none⟩) (show P ≠ Q by omega) (.int .i64 s.f2)
                    have o4 := o3.apart (i := 3) y3 (.int .i64 (max (s.f3 - ye / (5 * s.f4)) 0))
                    have y4 := y3.set_ 3 (.int .i64 (max (s.f3 - ye / (5 * s.f4)) 0))
                    have z4 := z3.far (a := ⟨Q, 3, none⟩) (show P ≠ Q by omega) (.int .i64 (max (s.f3 - ye / (5 * s.f4)) 0))
                    have o5 := o4.apart (i := 4) y4 (.int .i64 s.f4)
                    have y5 := y4.set_ 4 (.int .i64 s.f4)
                    have z5 := z4.far (a := ⟨Q, 4, none⟩) (show P ≠ Q by omega) (.int .i64 s.f4)
                    replace HB := Lib.hid (((((HB.out.setCell (p := ⟨Q, 0, none⟩) hwz13 (.int .i64 s.f0)).setCell (p := ⟨Q, 1, none⟩) hwz13 (.string s.f1)).setCell (p := ⟨Q, 2, none⟩) hwz13 (.int .i64 s.f2)).setCell (p := ⟨Q, 3, none⟩) hwz13 (.int .i64 (max (s.f3 - ye / (5 * s.f4)) 0))).setCell (p := ⟨Q, 4, none⟩) hwz13 (.int .i64 s.f4))
                    have hbk := ((((((Below.refl (b_ + 1) wP9).setCell (p := ⟨Q, 0, none⟩) hbz13 (.int .i64 s.f0)).setCell (p := ⟨Q, 1, none⟩) hbz13 (.string s.f1)).setCell (p := ⟨Q, 2, none⟩) hbz13 (.int .i64 s.f2)).setCell (p := ⟨Q, 3, none⟩) hbz13 (.int .i64 (max (s.f3 - ye / (5 * s.f4)) 0))).setCell (p := ⟨Q, 4, none⟩) hbz13 (.int .i64 s.f4))
                    replace ga0 := cells_of hbk ga0 (Nat.lt_succ_self _)
                    replace ga1 := cells_of hbk ga1 (Nat.lt_succ_self _)
                    replace ga2 := cells_of hbk ga2 (Nat.lt_succ_self _)
                    replace ga3 := cells_of hbk ga3 (Nat.lt_succ_self _)
                    replace ga4 := cells_of hbk ga4 (Nat.lt_succ_self _)
                    replace gs0 := cells_of hbk gs0 (Nat.lt_succ_self _)
                    replace gs1 := cells_of hbk gs1 (Nat.lt_succ_self _)
                    replace gs2 := cells_of hbk gs2 (Nat.lt_succ_self _)
                    replace gs3 := cells_of hbk gs3 (Nat.lt_succ_self _)
                    replace gs4 := cells_of hbk gs4 (Nat.lt_succ_self _)
                    refine wpAnyH_ready (rs := [15]) (by kernel_rfl) (by simp) ?_
                    refine AllReadyH.cons rfl (fun K hK => ?_) AllReadyH.nil
                    go_simp
                    refine hK.out _ _ (by exact ⟨ga0, ga1, ga2, ga3, ga4, gs0, gs1, gs2, gs3, gs4⟩) (fun hHeld => ?_)
                    clear hK K
                    (try simp only [Act.put, List.getElem_toArray, List.getElem_cons_zero, List.getElem_cons_succ, List.setIfInBounds_toArray, List.set_cons_zero, List.set_cons_succ])
                    replace x12 : Blk (((((wP9.setCell ⟨Q, 0, none⟩ (.int .i64 s.f0)).setCell ⟨Q, 1, none⟩ (.string s.f1)).setCell ⟨Q, 2, none⟩ (.int .i64 s.f2)).setCell ⟨Q, 3, none⟩ (.int .i64 (max (s.f3 - ye / (5 * s.f4)) 0))).setCell ⟨Q, 4, none⟩ (.int .i64 s.f4)) Q 30 #[.int .i64 s.f0, .string s.f1, .int .i64 s.f2, .int .i64 (max (s.f3 - ye / (5 * s.f4)) 0), .int .i64 s.f4] := y5
                    replace x11 := z5
                    replace ho := o5
                    clear y0 y1 y2 y3 y4 y5 z0 z1 z2 z3 z4 z5 o0 o1 o2 o3 o4 o5 c0 f0 c1 f1 c2 f2 c3 f3 c4 f4 hbk hzz
                    generalize (((((wP9.setCell ⟨Q, 0, none⟩ (.int .i64 s.f0)).setCell ⟨Q, 1, none⟩ (.string s.f1)).setCell ⟨Q, 2, none⟩ (.int .i64 s.f2)).setCell ⟨Q, 3, none⟩ (.int .i64 (max (s.f3 - ye / (5 * s.f4)) 0))).setCell ⟨Q, 4, none⟩ (.int .i64 s.f4)) = wQ9 at *
                    refine wpAnyH_done (by kernel_rfl) ?_ _
                    refine NoPanic.normal ?_
                    go_wp2_with fail
                    go_meet
                    exact ⟨rfl, P, Q, rfl, rfl, x11, x12, ho, HB.out⟩
              · go_simp
                replace ga0 := (World.cell?_alloc_lt w11 (.cells #[.int .i64 0, .string ⟨#[]⟩, .int .i64 0, .int .i64 0, .int .i64 0] 30) ⟨b_, _, none⟩ hbw).trans ga0
                replace ga1 := (World.cell?_alloc_lt w11 (.cells #[.int .i64 0, .string ⟨#[]⟩, .int .i64 0, .int .i64 0, .int .i64 0] 30) ⟨b_, _, none⟩ hbw).trans ga1
                replace ga2 := (World.cell?_alloc_lt w11 (.cells #[.int .i64 0, .string ⟨#[]⟩, .int .i64 0, .int .i64 0, .int .i64 0] 30) ⟨b_, _, none⟩ hbw).trans ga2
                replace ga3 := (World.cell?_alloc_lt w11 (.cells #[.int .i64 0, .string ⟨#[]⟩, .int .i64 0, .int .i64 0, .int .i64 0] 30) ⟨b_, _, none⟩ hbw).trans ga3
                replace ga4 := (World.cell?_alloc_lt w11 (.cells #[.int .i64 0, .string ⟨#[]⟩, .int .i64 0, .int .i64 0, .int .i64 0] 30) ⟨b_, _, none⟩ hbw).trans ga4
                replace gs0 := (World.cell?_alloc_lt w11 (.cells #[.int .i64 0, .string ⟨#[]⟩, .int .i64 0, .int .i64 0, .int .i64 0] 30) ⟨b_, _, none⟩ hbw).trans gs0
                replace gs1 := (World.cell?_alloc_lt w11 (.cells #[.int .i64 0, .string ⟨#[]⟩, .int .i64 0, .int .i64 0, .int .i64 0] 30) ⟨b_, _, none⟩ hbw).trans gs1
                replace gs2 := (World.cell?_alloc_lt w11 (.cells #[.int .i64 0, .string ⟨#[]⟩, .int .i64 0, .int .i64 0, .int .i64 0] 30) ⟨b_, _, none⟩ hbw).trans gs2
                replace gs3 := (World.cell?_alloc_lt w11 (.cells #[.int .i64 0, .string ⟨#[]⟩, .int .i64 0, .int .i64 0, .int .i64 0] 30) ⟨b_, _, none⟩ hbw).trans gs3
                replace gs4 := (World.cell?_alloc_lt w11 (.cells #[.int .i64 0, .string ⟨#[]⟩, .int .i64 0, .int .i64 0, .int .i64 0] 30) ⟨b_, _, none⟩ hbw).trans gs4
                have x12 := Blk.new w11 #[.int .i64 0, .string ⟨#[]⟩, .int .i64 0, .int .i64 0, .int .i64 0] 30
                have hbz13 : b_ < w11.heap.size := hbw
                have hwz13 : w.heap.size ≤ w11.heap.size := HB.out.size
                replace ho := ho.all ((Below.refl w11.heap.size w11).alloc (Nat.le_refl _) (.cells #[.int .i64 0, .string ⟨#[]⟩, .int .i64 0, .int .i64 0, .int .i64 0] 30))
                replace HB := Lib.hid (HB.out.alloc HB.out.size (.cells #[.int .i64 0, .string ⟨#[]⟩, .int .i64 0, .int .i64 0, .int .i64 0] 30))
                replace hbw : b_ < (w11.alloc (.cells #[.int .i64 0, .string ⟨#[]⟩, .int .i64 0, .int .i64 0, .int .i64 0] 30)).heap.size := Nat.lt_of_lt_of_le hbw (by simp)
                refine hK.out _ _ (by exact ⟨ga0, ga1, ga2, ga3, ga4, gs0, gs1, gs2, gs3, gs4⟩) (fun hHeld => ?_)
                clear hK K
                (try simp only [Act.put, List.getElem_toArray, List.getElem_cons_zero, List.getElem_cons_succ, List.setIfInBounds_toArray, List.set_cons_zero, List.set_cons_succ])
                refine wpAnyH_ready (rs := [11, 12]) (by kernel_rfl) (by simp) ?_
                refine AllReadyH.cons rfl (fun K hK => ?_) (AllReadyH.cons rfl (fun K hK => ?_) (AllReadyH.nil))
                · go_simp
                  (with_reducible refine (l3Faded_any s ye _ hs2 hs4 hy).mono ?_)
                  rintro e w12 ⟨rfl, hb5⟩
                  replace ga0 := cells_of hb5 ga0 hbw
                  replace ga1 := cells_of hb5 ga1 hbw
                  replace ga2 := cells_of hb5 ga2 hbw
                  replace ga3 := cells_of hb5 ga3 hbw
                  replace ga4 := cells_of hb5 ga4 hbw
                  replace gs0 := cells_of hb5 gs0 hbw
                  replace gs1 := cells_of hb5 gs1 hbw
                  replace gs2 := cells_of hb5 gs2 hbw
                  replace gs3 := cells_of hb5 gs3 hbw
                  replace gs4 := cells_of hb5 gs4 hbw
                  replace x12 := x12.all hb5
                  replace hbw := Nat.lt_of_lt_of_le hbw hb5.size
                  replace ho := ho.all hb5
                  replace HB := Lib.hid (HB.out.trans (hb5.mono HB.out.size))
                  clear hb5
                  refine hK.out _ _ (by exact ⟨ga0, ga1, ga2, ga3, ga4, gs0, gs1, gs2, gs3, gs4⟩) (fun hHeld => ?_)
                  clear hK K
                  (try simp only [Act.put, List.getElem_toArray, List.getElem_cons_zero, List.getElem_cons_succ, List.setIfInBounds_toArray, List.set_cons_zero, List.set_cons_succ])
                  refine wpAnyH_ready (rs := [12]) (by kernel_rfl) (by simp) ?_
                  refine AllReadyH.cons rfl (fun K hK => ?_) (AllReadyH.nil)
                  · go_simp
                    have hpq : w11.heap.size < w12.heap.size := x12.lt
                    replace ga0 := (World.cell?_alloc_lt w12 (.cells #[.int .i64 0, .string ⟨#[]⟩, .int .i64 0, .int .i64 0, .int .i64 0] 30) ⟨b_, _, none⟩ hbw).trans ga0
                    replace ga1 := (World.cell?_alloc_lt w12 (.cells #[.int .i64 0, .string ⟨#[]⟩, .int .i64 0, .int .i64 0, .int .i64 0] 30) ⟨b_, _, none⟩ hbw).trans ga1
                    replace ga2 := (World.cell?_alloc_lt w12 (.cells #[.int .i64 0, .string ⟨#[]⟩, .int .i64 0, .int .i64 0, .int .i64 0] 30) ⟨b_, _, none⟩ hbw).trans ga2
                    replace ga3 := (World.cell?_alloc_lt w12 (.cells #[.int .i64 0, .string ⟨#[]⟩, .int .i64 0, .int .i64 0, .int .i64 0] 30) ⟨b_, _, none⟩ hbw).trans ga3
                    replace ga4 := (World.cell?_alloc_lt w12 (.cells #[.int .i64 0, .string ⟨#[]⟩, .int .i64 0, .int .i64 0, .int .i64 0] 30) ⟨b_, _, none⟩ hbw).trans ga4
                    replace gs0 := (World.cell?_alloc_lt w12 (.cells #[.int .i64 0, .string ⟨#[]⟩, .int .i64 0, .int .i64 0, .int .i64 0] 30) ⟨b_, _, none⟩ hbw).trans gs0
                    replace gs1 := (World.cell?_alloc_lt w12 (.cells #[.int .i64 0, .string ⟨#[]⟩, .int .i64 0, .int .i64 0, .int .i64 0] 30) ⟨b_, _, none⟩ hbw).trans gs1
                    replace gs2 := (World.cell?_alloc_lt w12 (.cells #[.int .i64 0, .string ⟨#[]⟩, .int .i64 0, .int .i64 0, .int .i64 0] 30) ⟨b_, _, none⟩ hbw).trans gs2
                    replace gs3 := (World.cell?_alloc_lt w12 (.cells #[.int .i64 0, .string ⟨#[]⟩, .int .i64 0, .int .i64 0, .int .i64 0] 30) ⟨b_, _, none⟩ hbw).trans gs3
                    replace gs4 := (World.cell?_alloc_lt w12 (.cells #[.int .i64 0, .string ⟨#[]⟩, .int .i64 0, .int .i64 0, .int .i64 0] 30) ⟨b_, _, none⟩ hbw).trans gs4
                    replace x12 := x12.alloc (.cells #[.int .i64 0, .string ⟨#[]⟩, .int .i64 0, .int .i64 0, .int .i64 0] 30)
                    have x11 := Blk.new w12 #[.int .i64 0, .string ⟨#[]⟩, .int .i64 0, .int .i64 0, .int .i64 0] 30
                    have hbz12 : b_ < w12.heap.size := hbw
                    have hwz12 : w.heap.size ≤ w12.heap.size := HB.out.size
                    replace ho := ho.all ((Below.refl w12.heap.size w12).alloc (Nat.le_refl _) (.cells #[.int .i64 0, .string ⟨#[]⟩, .int .i64 0, .int .i64 0, .int .i64 0] 30))
                    replace HB := Lib.hid (HB.out.alloc HB.out.size (.cells #[.int .i64 0, .string ⟨#[]⟩, .int .i64 0, .int .i64 0, .int .i64 0] 30))
                    replace hbw : b_ < (w12.alloc (.cells #[.int .i64 0, .string ⟨#[]⟩, .int .i64 0, .int .i64 0, .int .i64 0] 30)).heap.size := Nat.lt_of_lt_of_le hbw (by simp)
                    refine hK.out _ _ (by exact ⟨ga0, ga1, ga2, ga3, ga4, gs0, gs1, gs2, gs3, gs4⟩) (fun hHeld => ?_)
                    clear hK K
                    (try simp only [Act.put, List.getElem_toArray, List.getElem_cons_zero, List.getElem_cons_succ, List.setIfInBounds_toArray, List.set_cons_zero, List.set_cons_succ])
                    generalize (w12.alloc (.cells #[.int .i64 0, .string ⟨#[]⟩, .int .i64 0, .int .i64 0, .int .i64 0] 30)) = wl at *
                    have hne0 : w12.heap.size ≠ w11.heap.size := by omega
                    clear hpq
                    obtain ⟨Q, hQ⟩ : ∃ Q, w11.heap.size = Q := ⟨_, rfl⟩
                    rw [hQ] at x12 hbz13 hwz13 hne0 ⊢
                    clear hQ
                    obtain ⟨P, hP⟩ : ∃ P, w12.heap.size = P := ⟨_, rfl⟩
                    rw [hP] at x11 hbz12 hwz12 hne0 ⊢
                    clear hP
                    have hne : P ≠ Q := hne0
                    have hzz := x11.lt
                    have c0 := x11.cell 0
                    have f0 := x11.frozen 0
                    have c1 := x11.cell 1
                    have f1 := x11.frozen 1
                    have c2 := x11.cell 2
                    have f2 := x11.frozen 2
                    have c3 := x11.cell 3
                    have f3 := x11.frozen 3
                    have c4 := x11.cell 4
                    have f4 := x11.frozen 4
                    have y0 := x11
                    have z0 := x12
                    have o0 := ho
                    have o1 := o0.apart (i := 0) y0 (.int .i64 a.f0)
                    have y1 := y0.set_ 0 (.int .i64 a.f0)
                    have z1 := z0.far (a := ⟨P, 0, none⟩) (show Q ≠ P by omega) (.int .i64 a.f0)
                    have o2 := o1.apart (i := 1) y1 (.string a.f1)
                    have y2 := y1.set_ 1 (.string a.f1)
                    have z2 := z1.far (a := ⟨P, 1, none⟩) (show Q ≠ P by omega) (.string a.f1)
                    have o3 := o2.apart (i := 2) y2 (.int .i64 a.f2)
                    have y3 := y2.set_ 2 (.int .i64 a.f2)
                    have z3 := z2.far (a := ⟨P, 2, none⟩) (show Q ≠ P by omega) (.int .i64 a.f2)
                    have o4 := o3.apart (i := 3) y3 (.int .i64 (max (a.f3 - ye / (5 * a.f4)) 0))
                    have y4 := y3.set_ 3 (.int .i64 (max (a.f3 - ye / (5 * a.f4)) 0))
                    have z4 := z3.far (a := ⟨P, 3, none⟩) (show Q ≠ P by omega) (.int .i64 (max (a.f3 - ye / (5 * a.f4)) 0))
                    have o5 := o4.apart (i := 4) y4 (.int .i64 a.f4)
                    have y5 := y4.set_ 4 (.int .i64 a.f4)
                    have z5 := z4.far (a := ⟨P, 4, none⟩) (show Q ≠ P by omega) (.int .i64 a.f4)
                    replace HB := Lib.hid (((((HB.out.setCell (p := ⟨P, 0, none⟩) hwz12 (.int .i64 a.f0)).setCell (p := ⟨P, 1, none⟩) hwz12 (.string a.f1)).setCell (p := ⟨P, 2, none⟩) hwz12 (.int .i64 a.f2)).setCell (p := ⟨P, 3, none⟩) hwz12 (.int .i64 (max (a.f3 - ye / (5 * a.f4)) 0))).setCell (p := ⟨P, 4, none⟩) hwz12 (.int .i64 a.f4))
                    have hbk := ((((((Below.refl (b_ + 1) wl).setCell (p := ⟨P, 0, none⟩) hbz12 (.int .i64 a.f0)).setCell (p := ⟨P, 1, none⟩) hbz12 (.string a.f1)).setCell (p := ⟨P, 2, none⟩) hbz12 (.int .i64 a.f2)).setCell (p := ⟨P, 3, none⟩) hbz12 (.int .i64 (max (a.f3 - ye / (5 * a.f4)) 0))).setCell (p := ⟨P, 4, none⟩) hbz12 (.int .i64 a.f4))
                    replace ga0 := cells_of hbk ga0 (Nat.lt_succ_self _)
                    replace ga1 := cells_of hbk ga1 (Nat.lt_succ_self _)
                    replace ga2 := cells_of hbk ga2 (Nat.lt_succ_self _)
                    replace ga3 := cells_of hbk ga3 (Nat.lt_succ_self _)
                    replace ga4 := cells_of hbk ga4 (Nat.lt_succ_self _)
                    replace gs0 := cells_of hbk gs0 (Nat.lt_succ_self _)
                    replace gs1 := cells_of hbk gs1 (Nat.lt_succ_self _)
                    replace gs2 := cells_of hbk gs2 (Nat.lt_succ_self _)
                    replace gs3 := cells_of hbk gs3 (Nat.lt_succ_self _)
                    replace gs4 := cells_of hbk gs4 (Nat.lt_succ_self _)
                    refine wpAnyH_ready (rs := [14]) (by kernel_rfl) (by simp) ?_
                    refine AllReadyH.cons rfl (fun K hK => ?_) AllReadyH.nil
                    go_simp
                    refine hK.out _ _ (by exact ⟨ga0, ga1, ga2, ga3, ga4, gs0, gs1, gs2, gs3, gs4⟩) (fun hHeld => ?_)
                    clear hK K
                    (try simp only [Act.put, List.getElem_toArray, List.getElem_cons_zero, List.getElem_cons_succ, List.setIfInBounds_toArray, List.set_cons_zero, List.set_cons_succ])
                    replace x11 : Blk (((((wl.setCell ⟨P, 0, none⟩ (.int .i64 a.f0)).setCell ⟨P, 1, none⟩ (.string a.f1)).setCell ⟨P, 2, none⟩ (.int .i64 a.f2)).setCell ⟨P, 3, none⟩ (.int .i64 (max (a.f3 - ye / (5 * a.f4)) 0))).setCell ⟨P, 4, none⟩ (.int .i64 a.f4)) P 30 #[.int .i64 a.f0, .string a.f1, .int .i64 a.f2, .int .i64 (max (a.f3 - ye / (5 * a.f4)) 0), .int .i64 a.f4] := y5
                    replace x12 := z5
                    replace ho := o5
                    clear y0 y1 y2 y3 y4 y5 z0 z1 z2 z3 z4 z5 o0 o1 o2 o3 o4 o5 c0 f0 c1 f1 c2 f2 c3 f3 c4 f4 hbk hzz
                    generalize (((((wl.setCell ⟨P, 0, none⟩ (.int .i64 a.f0)).setCell ⟨P, 1, none⟩ (.string a.f1)).setCell ⟨P, 2, none⟩ (.int .i64 a.f2)).setCell ⟨P, 3, none⟩ (.int .i64 (max (a.f3 - ye / (5 * a.f4)) 0))).setCell ⟨P, 4, none⟩ (.int .i64 a.f4)) = wP9 at *
                    have hzz := x12.lt
                    have c0 := x12.cell 0
                    have f0 := x12.frozen 0
                    have c1 := x12.cell 1
                    have f1 := x12.frozen 1
                    have c2 := x12.cell 2
                    have f2 := x12.frozen 2
                    have c3 := x12.cell 3
                    have f3 := x12.frozen 3
                    have c4 := x12.cell 4
                    have f4 := x12.frozen 4
                    have y0 := x12
                    have z0 := x11
                    have o0 := ho
                    have o1 := o0.apart (i := 0) y0 (.int .i64 s.f0)
                    have y1 := y0.set_ 0 (.int .i64 s.f0)
                    have z1 := z0.far (a := ⟨Q, 0, none⟩) (show P ≠ Q by omega) (.int .i64 s.f0)
                    have o2 := o1.apart (i := 1) y1 (.string s.f1)
                    have y2 := y1.set_ 1 (.string s.f1)
                    have z2 := z1.far (a := ⟨Q, 1, none⟩) (show P ≠ Q by omega) (.string s.f1)
                    have o3 := o2.apart (i := 2) y2 (.int .i64 s.f2)
                    have y3 := y2.set_ 2 (.int .i64 s.f2)
                    have z3 := z2.far (a := ⟨Q, 2, none⟩) (show P ≠ Q by omega) (.int .i64 s.f2)
                    have o4 := o3.apart (i := 3) y3 (.int .i64 (max (s.f3 - ye / (5 * s.f4)) 0))
                    have y4 := y3.set_ 3 (.int .i64 (max (s.f3 - ye / (5 * s.f4)) 0))
                    have z4 := z3.far (a := ⟨Q, 3, none⟩) (show P ≠ Q by omega) (.int .i64 (max (s.f3 - ye / (5 * s.f4)) 0))
                    have o5 := o4.apart (i := 4) y4 (.int .i64 s.f4)
                    have y5 := y4.set_ 4 (.int .i64 s.f4)
                    have z5 := z4.far (a := ⟨Q, 4, none⟩) (show P ≠ Q by omega) (.int .i64 s.f4)
                    replace HB := Lib.hid (((((HB.out.setCell (p := ⟨Q, 0, none⟩) hwz13 (.int .i64 s.f0)).setCell (p := ⟨Q, 1, none⟩) hwz13 (.string s.f1)).setCell (p := ⟨Q, 2, none⟩) hwz13 (.int .i64 s.f2)).setCell (p := ⟨Q, 3, none⟩) hwz13 (.int .i64 (max (s.f3 - ye / (5 * s.f4)) 0))).setCell (p := ⟨Q, 4, none⟩) hwz13 (.int .i64 s.f4))
                    have hbk := ((((((Below.refl (b_ + 1) wP9).setCell (p := ⟨Q, 0, none⟩) hbz13 (.int .i64 s.f0)).setCell (p := ⟨Q, 1, none⟩) hbz13 (.string s.f1)).setCell (p := ⟨Q, 2, none⟩) hbz13 (.int .i64 s.f2)).setCell (p := ⟨Q, 3, none⟩) hbz13 (.int .i64 (max (s.f3 - ye / (5 * s.f4)) 0))).setCell (p := ⟨Q, 4, none⟩) hbz13 (.int .i64 s.f4))
                    replace ga0 := cells_of hbk ga0 (Nat.lt_succ_self _)
                    replace ga1 := cells_of hbk ga1 (Nat.lt_succ_self _)
                    replace ga2 := cells_of hbk ga2 (Nat.lt_succ_self _)
                    replace ga3 := cells_of hbk ga3 (Nat.lt_succ_self _)
                    replace ga4 := cells_of hbk ga4 (Nat.lt_succ_self _)
                    replace gs0 := cells_of hbk gs0 (Nat.lt_succ_self _)
                    replace gs1 := cells_of hbk gs1 (Nat.lt_succ_self _)
                    replace gs2 := cells_of hbk gs2 (Nat.lt_succ_self _)
                    replace gs3 := cells_of hbk gs3 (Nat.lt_succ_self _)
                    replace gs4 := cells_of hbk gs4 (Nat.lt_succ_self _)
                    refine wpAnyH_ready (rs := [15]) (by kernel_rfl) (by simp) ?_
                    refine AllReadyH.cons rfl (fun K hK => ?_) AllReadyH.nil
                    go_simp
                    refine hK.out _ _ (by exact ⟨ga0, ga1, ga2, ga3, ga4, gs0, gs1, gs2, gs3, gs4⟩) (fun hHeld => ?_)
                    clear hK K
                    (try simp only [Act.put, List.getElem_toArray, List.getElem_cons_zero, List.getElem_cons_succ, List.setIfInBounds_toArray, List.set_cons_zero, List.set_cons_succ])
                    replace x12 : Blk (((((wP9.setCell ⟨Q, 0, none⟩ (.int .i64 s.f0)).setCell ⟨Q, 1, none⟩ (.string s.f1)).setCell ⟨Q, 2, none⟩ (.int .i64 s.f2)).setCell ⟨Q, 3, none⟩ (.int .i64 (max (s.f3 - ye / (5 * s.f4)) 0))).setCell ⟨Q, 4, none⟩ (.int .i64 s.f4)) Q 30 #[.int .i64 s.f0, .string s.f1, .int .i64 s.f2, .int .i64 (max (s.f3 - ye / (5 * s.f4)) 0), .int .i64 s.f4] := y5
                    replace x11 := z5
                    replace ho := o5
                    clear y0 y1 y2 y3 y4 y5 z0 z1 z2 z3 z4 z5 o0 o1 o2 o3 o4 o5 c0 f0 c1 f1 c2 f2 c3 f3 c4 f4 hbk hzz
                    generalize (((((wP9.setCell ⟨Q, 0, none⟩ (.int .i64 s.f0)).setCell ⟨Q, 1, none⟩ (.string s.f1)).setCell ⟨Q, 2, none⟩ (.int .i64 s.f2)).setCell ⟨Q, 3, none⟩ (.int .i64 (max (s.f3 - ye / (5 * s.f4)) 0))).setCell ⟨Q, 4, none⟩ (.int .i64 s.f4)) = wQ9 at *
                    refine wpAnyH_done (by kernel_rfl) ?_ _
                    refine NoPanic.normal ?_
                    go_wp2_with fail
                    go_meet
                    exact ⟨rfl, P, Q, rfl, rfl, x11, x12, ho, HB.out⟩
                · go_simp
                  have hpq : w11.heap.size < (w11.alloc (.cells #[.int .i64 0, .string ⟨#[]⟩, .int .i64 0, .int .i64 0, .int .i64 0] 30)).heap.size := x12.lt
                  replace ga0 := (World.cell?_alloc_lt (w11.alloc (.cells #[.int .i64 0, .string ⟨#[]⟩, .int .i64 0, .int .i64 0, .int .i64 0] 30)) (.cells #[.int .i64 0, .string ⟨#[]⟩, .int .i64 0, .int .i64 0, .int .i64 0] 30) ⟨b_, _, none⟩ hbw).trans ga0
                  replace ga1 := (World.cell?_alloc_lt (w11.alloc (.cells #[.int .i64 0, .string ⟨#[]⟩, .int .i64 0, .int .i64 0, .int .i64 0] 30)) (.cells #[.int .i64 0, .string ⟨#[]⟩, .int .i64 0, .int .i64 0, .int .i64 0] 30) ⟨b_, _, none⟩ hbw).trans ga1
                  replace ga2 := (World.cell?_alloc_lt (w11.alloc (.cells #[.int .i64 0, .string ⟨#[]⟩, .int .i64 0, .int .i64 0, .int .i64 0] 30)) (.cells #[.int .i64 0, .string ⟨#[]⟩, .int .i64 0, .int .i64 0, .int .i64 0] 30) ⟨b_, _, none⟩ hbw).trans ga2
                  replace ga3 := (World.cell?_alloc_lt (w11.alloc (.cells #[.int .i64 0, .string ⟨#[]⟩, .int .i64 0, .int .i64 0, .int .i64 0] 30)) (.cells #[.int .i64 0, .string ⟨#[]⟩, .int .i64 0, .int .i64 0, .int .i64 0] 30) ⟨b_, _, none⟩ hbw).trans ga3
                  replace ga4 := (World.cell?_alloc_lt (w11.alloc (.cells #[.int .i64 0, .string ⟨#[]⟩, .int .i64 0, .int .i64 0, .int .i64 0] 30)) (.cells #[.int .i64 0, .string ⟨#[]⟩, .int .i64 0, .int .i64 0, .int .i64 0] 30) ⟨b_, _, none⟩ hbw).trans ga4
                  replace gs0 := (World.cell?_alloc_lt (w11.alloc (.cells #[.int .i64 0, .string ⟨#[]⟩, .int .i64 0, .int .i64 0, .int .i64 0] 30)) (.cells #[.int .i64 0, .string ⟨#[]⟩, .int .i64 0, .int .i64 0, .int .i64 0] 30) ⟨b_, _, none⟩ hbw).trans gs0
                  replace gs1 := (World.cell?_alloc_lt (w11.alloc (.cells #[.int .i64 0, .string ⟨#[]⟩, .int .i64 0, .int .i64 0, .int .i64 0] 30)) (.cells #[.int .i64 0, .string ⟨#[]⟩, .int .i64 0, .int .i64 0, .int .i64 0] 30) ⟨b_, _, none⟩ hbw).trans gs1
                  replace gs2 := (World.cell?_alloc_lt (w11.alloc (.cells #[.int .i64 0, .string ⟨#[]⟩, .int .i64 0, .int .i64 0, .int .i64 0] 30)) (.cells #[.int .i64 0, .string ⟨#[]⟩, .int .i64 0, .int .i64 0, .int .i64 0] 30) ⟨b_, _, none⟩ hbw).trans gs2
                  replace gs3 := (World.cell?_alloc_lt (w11.alloc (.cells #[.int .i64 0, .string ⟨#[]⟩, .int .i64 0, .int .i64 0, .int .i64 0] 30)) (.cells #[.int .i64 0, .string ⟨#[]⟩, .int .i64 0, .int .i64 0, .int .i64 0] 30) ⟨b_, _, none⟩ hbw).trans gs3
                  replace gs4 := (World.cell?_alloc_lt (w11.alloc (.cells #[.int .i64 0, .string ⟨#[]⟩, .int .i64 0, .int .i64 0, .int .i64 0] 30)) (.cells #[.int .i64 0, .string ⟨#[]⟩, .int .i64 0, .int .i64 0, .int .i64 0] 30) ⟨b_, _, none⟩ hbw).trans gs4
                  replace x12 := x12.alloc (.cells #[.int .i64 0, .string ⟨#[]⟩, .int .i64 0, .int .i64 0, .int .i64 0] 30)
                  have x11 := Blk.new (w11.alloc (.cells #[.int .i64 0, .string ⟨#[]⟩, .int .i64 0, .int .i64 0, .int .i64 0] 30)) #[.int .i64 0, .string ⟨#[]⟩, .int .i64 0, .int .i64 0, .int .i64 0] 30
                  have hbz12 : b_ < (w11.alloc (.cells #[.int .i64 0, .string ⟨#[]⟩, .int .i64 0, .int .i64 0, .int .i64 0] 30)).heap.size := hbw
                  have hwz12 : w.heap.size ≤ (w11.alloc (.cells #[.int .i64 0, .string ⟨#[]⟩, .int .i64 0, .int .i64 0, .int .i64 0] 30)).heap.size := HB.out.size
                  rw [show (w11.alloc (.cells #[.int .i64 0, .string ⟨#[]⟩, .int .i64 0, .int .i64 0, .int .i64 0] 30)).heap.size = w11.heap.size + 1 by simp] at x11 hbz12 hwz12 hpq
                  replace ho := ho.all ((Below.refl (w11.alloc (.cells #[.int .i64 0, .string ⟨#[]⟩, .int .i64 0, .int .i64 0, .int .i64 0] 30)).heap.size (w11.alloc (.cells #[.int .i64 0, .string ⟨#[]⟩, .int .i64 0, .int .i64 0, .int .i64 0] 30))).alloc (Nat.le_refl _) (.cells #[.int .i64 0, .string ⟨#[]⟩, .int .i64 0, .int .i64 0, .int .i64 0] 30))
                  replace HB := Lib.hid (HB.out.alloc HB.out.size (.cells #[.int .i64 0, .string ⟨#[]⟩, .int .i64 0, .int .i64 0, .int .i64 0] 30))
                  replace hbw : b_ < ((w11.alloc (.cells #[.int .i64 0, .string ⟨#[]⟩, .int .i64 0, .int .i64 0, .int .i64 0] 30)).alloc (.cells #[.int .i64 0, .string ⟨#[]⟩, .int .i64 0, .int .i64 0, .int .i64 0] 30)).heap.size := Nat.lt_of_lt_of_le hbw (by simp)
                  refine hK.out _ _ (by exact ⟨ga0, ga1, ga2, ga3, ga4, gs0, gs1, gs2, gs3, gs4⟩) (fun hHeld => ?_)
                  clear hK K
                  (try simp only [Act.put, List.getElem_toArray, List.getElem_cons_zero, List.getElem_cons_succ, List.setIfInBounds_toArray, List.set_cons_zero, List.set_cons_succ])
                  refine wpAnyH_ready (rs := [11]) (by kernel_rfl) (by simp) ?_
                  refine AllReadyH.cons rfl (fun K hK => ?_) (AllReadyH.nil)
                  · go_simp
                    (with_reducible refine (l3Faded_any s ye _ hs2 hs4 hy).mono ?_)
                    rintro e w12 ⟨rfl, hb5⟩
                    replace ga0 := cells_of hb5 ga0 hbw
                    replace ga1 := cells_of hb5 ga1 hbw
                    replace ga2 := cells_of hb5 ga2 hbw
                    replace ga3 := cells_of hb5 ga3 hbw
                    replace ga4 := cells_of hb5 ga4 hbw
                    replace gs0 := cells_of hb5 gs0 hbw
                    replace gs1 := cells_of hb5 gs1 hbw
                    replace gs2 := cells_of hb5 gs2 hbw
                    replace gs3 := cells_of hb5 gs3 hbw
                    replace gs4 := cells_of hb5 gs4 hbw
                    replace x12 := x12.all hb5
                    replace x11 := x11.all hb5
                    replace hbw := Nat.lt_of_lt_of_le hbw hb5.size
                    replace ho := ho.all hb5
                    replace HB := Lib.hid (HB.out.trans (hb5.mono HB.out.size))
                    clear hb5
                    refine hK.out _ _ (by exact ⟨ga0, ga1, ga2, ga3, ga4, gs0, gs1, gs2, gs3, gs4⟩) (fun hHeld => ?_)
                    clear hK K
                    (try simp only [Act.put, List.getElem_toArray, List.getElem_cons_zero, List.getElem_cons_succ, List.setIfInBounds_toArray, List.set_cons_zero, List.set_cons_succ])
                    have hne0 : w11.heap.size + 1 ≠ w11.heap.size := by omega
                    clear hpq
                    obtain ⟨P, hP⟩ : ∃ P, w11.heap.size + 1 = P := ⟨_, rfl⟩
                    rw [hP] at x11 hbz12 hwz12 hne0 ⊢
                    clear hP
                    obtain ⟨Q, hQ⟩ : ∃ Q, w11.heap.size = Q := ⟨_, rfl⟩
                    rw [hQ] at x12 hbz13 hwz13 hne0 ⊢
                    clear hQ
                    have hne : P ≠ Q := hne0
                    have hzz := x11.lt
                    have c0 := x11.cell 0
                    have f0 := x11.frozen 0
                    have c1 := x11.cell 1
                    have f1 := x11.frozen 1
                    have c2 := x11.cell 2
                    have f2 := x11.frozen 2
                    have c3 := x11.cell 3
                    have f3 := x11.frozen 3
                    have c4 := x11.cell 4
                    have f4 := x11.frozen 4
                    have y0 := x11
                    have z0 := x12
                    have o0 := ho
                    have o1 := o0.apart (i := 0) y0 (.int .i64 a.f0)
                    have y1 := y0.set_ 0 (.int .i64 a.f0)
                    have z1 := z0.far (a := ⟨P, 0, none⟩) (show Q ≠ P by omega) (.int .i64 a.f0)
                    have o2 := o1.apart (i := 1) y1 (.string a.f1)
                    have y2 := y1.set_ 1 (.string a.f1)
                    have z2 := z1.far (a := ⟨P, 1, none⟩) (show Q ≠ P by omega) (.string a.f1)
                    have o3 := o2.apart (i := 2) y2 (.int .i64 a.f2)
                    have y3 := y2.set_ 2 (.int .i64 a.f2)
                    have z3 := z2.far (a := ⟨P, 2, none⟩) (show Q ≠ P by omega) (.int .i64 a.f2)
                    have o4 := o3.apart (i := 3) y3 (.int .i64 (max (a.f3 - ye / (5 * a.f4)) 0))
                    have y4 := y3.set_ 3 (.int .i64 (max (a.f3 - ye / (5 * a.f4)) 0))
                    have z4 := z3.far (a := ⟨P, 3, none⟩) (show Q ≠ P by omega) (.int .i64 (max (a.f3 - ye / (5 * a.f4)) 0))
                    have o5 := o4.apart (i := 4) y4 (.int .i64 a.f4)
                    have y5 := y4.set_ 4 (.int .i64 a.f4)
                    have z5 := z4.far (a := ⟨P, 4, none⟩) (show Q ≠ P by omega) (.int .i64 a.f4)
                    replace HB := Lib.hid (((((HB.out.setCell (p := ⟨P, 0, none⟩) hwz12 (.int .i64 a.f0)).setCell (p := ⟨P, 1, none⟩) hwz12 (.string a.f1)).setCell (p := ⟨P, 2, none⟩) hwz12 (.int .i64 a.f2)).setCell (p := ⟨P, 3, none⟩) hwz12 (.int .i64 (max (a.f3 - ye / (5 * a.f4)) 0))).setCell (p := ⟨P, 4, none⟩) hwz12 (.int .i64 a.f4))
                    have hbk := ((((((Below.refl (b_ + 1) w12).setCell (p := ⟨P, 0, none⟩) hbz12 (.int .i64 a.f0)).setCell (p := ⟨P, 1, none⟩) hbz12 (.string a.f1)).setCell (p := ⟨P, 2, none⟩) hbz12 (.int .i64 a.f2)).setCell (p := ⟨P, 3, none⟩) hbz12 (.int .i64 (max (a.f3 - ye / (5 * a.f4)) 0))).setCell (p := ⟨P, 4, none⟩) hbz12 (.int .i64 a.f4))
                    replace ga0 := cells_of hbk ga0 (Nat.lt_succ_self _)
                    replace ga1 := cells_of hbk ga1 (Nat.lt_succ_self _)
                    replace ga2 := cells_of hbk ga2 (Nat.lt_succ_self _)
                    replace ga3 := cells_of hbk ga3 (Nat.lt_succ_self _)
                    replace ga4 := cells_of hbk ga4 (Nat.lt_succ_self _)
                    replace gs0 := cells_of hbk gs0 (Nat.lt_succ_self _)
                    replace gs1 := cells_of hbk gs1 (Nat.lt_succ_self _)
                    replace gs2 := cells_of hbk gs2 (Nat.lt_succ_self _)
                    replace gs3 := cells_of hbk gs3 (Nat.lt_succ_self _)
                    replace gs4 := cells_of hbk gs4 (Nat.lt_succ_self _)
                    refine wpAnyH_ready (rs := [14]) (by kernel_rfl) (by simp) ?_
                    refine AllReadyH.cons rfl (fun K hK => ?_) AllReadyH.nil
                    go_simp
                    refine hK.out _ _ (by exact ⟨ga0, ga1, ga2, ga3, ga4, gs0, gs1, gs2, gs3, gs4⟩) (fun hHeld => ?_)
                    clear hK K
                    (try simp only [Act.put, List.getElem_toArray, List.getElem_cons_zero, List.getElem_cons_succ, List.setIfInBounds_toArray, List.set_cons_zero, List.set_cons_succ])
                    replace x11 : Blk (((((w12.setCell ⟨P, 0, none⟩ (.int .i64 a.f0)).setCell ⟨P, 1, none⟩ (.string a.f1)).setCell ⟨P, 2, none⟩ (.int .i64 a.f2)).setCell ⟨P, 3, none⟩ (.int .i64 (max (a.f3 - ye / (5 * a.f4)) 0))).setCell ⟨P, 4, none⟩ (.int .i64 a.f4)) P 30 #[.int .i64 a.f0, .string a.f1, .int .i64 a.f2, .int .i64 (max (a.f3 - ye / (5 * a.f4)) 0), .int .i64 a.f4] := y5
                    replace x12 := z5
                    replace ho := o5
                    clear y0 y1 y2 y3 y4 y5 z0 z1 z2 z3 z4 z5 o0 o1 o2 o3 o4 o5 c0 f0 c1 f1 c2 f2 c3 f3 c4 f4 hbk hzz
                    generalize (((((w12.setCell ⟨P, 0, none⟩ (.int .i64 a.f0)).setCell ⟨P, 1, none⟩ (.string a.f1)).setCell ⟨P, 2, none⟩ (.int .i64 a.f2)).setCell ⟨P, 3, none⟩ (.int .i64 (max (a.f3 - ye / (5 * a.f4)) 0))).setCell ⟨P, 4, none⟩ (.int .i64 a.f4)) = wP9 at *
                    have hzz := x12.lt
                    have c0 := x12.cell 0
                    have f0 := x12.frozen 0
                    have c1 := x12.cell 1
                    have f1 := x12.frozen 1
                    have c2 := x12.cell 2
                    have f2 := x12.frozen 2
                    have c3 := x12.cell 3
                    have f3 := x12.frozen 3
                    have c4 := x12.cell 4
                    have f4 := x12.frozen 4
                    have y0 := x12
                    have z0 := x11
                    have o0 := ho
                    have o1 := o0.apart (i := 0) y0 (.int .i64 s.f0)
                    have y1 := y0.set_ 0 (.int .i64 s.f0)
                    have z1 := z0.far (a := ⟨Q, 0, none⟩) (show P ≠ Q by omega) (.int .i64 s.f0)
                    have o2 := o1.apart (i := 1) y1 (.string s.f1)
                    have y2 := y1.set_ 1 (.string s.f1)
                    have z2 := z1.far (a := ⟨Q, 1, none⟩) (show P ≠ Q by omega) (.string s.f1)
                    have o3 := o2.apart (i := 2) y2 (.int .i64 s.f2)
                    have y3 := y2.set_ 2 (.int .i64 s.f2)
                    have z3 := z2.far (a := ⟨Q, 2, none⟩) (show P ≠ Q by omega) (.int .i64 s.f2)
                    have o4 := o3.apart (i := 3) y3 (.int .i64 (max (s.f3 - ye / (5 * s.f4)) 0))
                    have y4 := y3.set_ 3 (.int .i64 (max (s.f3 - ye / (5 * s.f4)) 0))
                    have z4 := z3.far (a := ⟨Q, 3, none⟩) (show P ≠ Q by omega) (.int .i64 (max (s.f3 - ye / (5 * s.f4)) 0))
                    have o5 := o4.apart (i := 4) y4 (.int .i64 s.f4)
                    have y5 := y4.set_ 4 (.int .i64 s.f4)
                    have z5 := z4.far (a := ⟨Q, 4, none⟩) (show P ≠ Q by omega) (.int .i64 s.f4)
                    replace HB := Lib.hid (((((HB.out.setCell (p := ⟨Q, 0, none⟩) hwz13 (.int .i64 s.f0)).setCell (p := ⟨Q, 1, none⟩) hwz13 (.string s.f1)).setCell (p := ⟨Q, 2, none⟩) hwz13 (.int .i64 s.f2)).setCell (p := ⟨Q, 3, none⟩) hwz13 (.int .i64 (max (s.f3 - ye / (5 * s.f4)) 0))).setCell (p := ⟨Q, 4, none⟩) hwz13 (.int .i64 s.f4))
                    have hbk := ((((((Below.refl (b_ + 1) wP9).setCell (p := ⟨Q, 0, none⟩) hbz13 (.int .i64 s.f0)).setCell (p := ⟨Q, 1, none⟩) hbz13 (.string s.f1)).setCell (p := ⟨Q, 2, none⟩) hbz13 (.int .i64 s.f2)).setCell (p := ⟨Q, 3, none⟩) hbz13 (.int .i64 (max (s.f3 - ye / (5 * s.f4)) 0))).setCell (p := ⟨Q, 4, none⟩) hbz13 (.int .i64 s.f4))
                    replace ga0 := cells_of hbk ga0 (Nat.lt_succ_self _)
                    replace ga1 := cells_of hbk ga1 (Nat.lt_succ_self _)
                    replace ga2 := cells_of hbk ga2 (Nat.lt_succ_self _)
                    replace ga3 := cells_of hbk ga3 (Nat.lt_succ_self _)
                    replace ga4 := cells_of hbk ga4 (Nat.lt_succ_self _)
                    replace gs0 := cells_of hbk gs0 (Nat.lt_succ_self _)
                    replace gs1 := cells_of hbk gs1 (Nat.lt_succ_self _)
                    replace gs2 := cells_of hbk gs2 (Nat.lt_succ_self _)
                    replace gs3 := cells_of hbk gs3 (Nat.lt_succ_self _)
                    replace gs4 := cells_of hbk gs4 (Nat.lt_succ_self _)
                    refine wpAnyH_ready (rs := [15]) (by kernel_rfl) (by simp) ?_
                    refine AllReadyH.cons rfl (fun K hK => ?_) AllReadyH.nil
                    go_simp
                    refine hK.out _ _ (by exact ⟨ga0, ga1, ga2, ga3, ga4, gs0, gs1, gs2, gs3, gs4⟩) (fun hHeld => ?_)
                    clear hK K
                    (try simp only [Act.put, List.getElem_toArray, List.getElem_cons_zero, List.getElem_cons_succ, List.setIfInBounds_toArray, List.set_cons_zero, List.set_cons_succ])
                    replace x12 : Blk (((((wP9.setCell ⟨Q, 0, none⟩ (.int .i64 s.f0)).setCell ⟨Q, 1, none⟩ (.string s.f1)).setCell ⟨Q, 2, none⟩ (.int .i64 s.f2)).setCell ⟨Q, 3, none⟩ (.int .i64 (max (s.f3 - ye / (5 * s.f4)) 0))).setCell ⟨Q, 4, none⟩ (.int .i64 s.f4)) Q 30 #[.int .i64 s.f0, .string s.f1, .int .i64 s.f2, .int .i64 (max (s.f3 - ye / (5 * s.f4)) 0), .int .i64 s.f4] := y5
                    replace x11 := z5
                    replace ho := o5
                    clear y0 y1 y2 y3 y4 y5 z0 z1 z2 z3 z4 z5 o0 o1 o2 o3 o4 o5 c0 f0 c1 f1 c2 f2 c3 f3 c4 f4 hbk hzz
                    generalize (((((wP9.setCell ⟨Q, 0, none⟩ (.int .i64 s.f0)).setCell ⟨Q, 1, none⟩ (.string s.f1)).setCell ⟨Q, 2, none⟩ (.int .i64 s.f2)).setCell ⟨Q, 3, none⟩ (.int .i64 (max (s.f3 - ye / (5 * s.f4)) 0))).setCell ⟨Q, 4, none⟩ (.int .i64 s.f4)) = wQ9 at *
                    refine wpAnyH_done (by kernel_rfl) ?_ _
                    refine NoPanic.normal ?_
                    go_wp2_with fail
                    go_meet
                    exact ⟨rfl, P, Q, rfl, rfl, x11, x12, ho, HB.out⟩
            · go_simp
              replace ga0 := (World.cell?_alloc_lt wz (.cells #[.int .i64 0, .string ⟨#[]⟩, .int .i64 0, .int .i64 0, .int .i64 0] 30) ⟨b_, _, none⟩ hbw).trans ga0
              replace ga1 := (World.cell?_alloc_lt wz (.cells #[.int .i64 0, .string ⟨#[]⟩, .int .i64 0, .int .i64 0, .int .i64 0] 30) ⟨b_, _, none⟩ hbw).trans ga1
              replace ga2 := (World.cell?_alloc_lt wz (.cells #[.int .i64 0, .string ⟨#[]⟩, .int .i64 0, .int .i64 0, .int .i64 0] 30) ⟨b_, _, none⟩ hbw).trans ga2
              replace ga3 := (World.cell?_alloc_lt wz (.cells #[.int .i64 0, .string ⟨#[]⟩, .int .i64 0, .int .i64 0, .int .i64 0] 30) ⟨b_, _, none⟩ hbw).trans ga3
              replace ga4 := (World.cell?_alloc_lt wz (.cells #[.int .i64 0, .string ⟨#[]⟩, .int .i64 0, .int .i64 0, .int .i64 0] 30) ⟨b_, _, none⟩ hbw).trans ga4
              replace gs0 := (World.cell?_alloc_lt wz (.cells #[.int .i64 0, .string ⟨#[]⟩, .int .i64 0, .int .i64 0, .int .i64 0] 30) ⟨b_, _, none⟩ hbw).trans gs0
              replace gs1 := (World.cell?_alloc_lt wz (.cells #[.int .i64 0, .string ⟨#[]⟩, .int .i64 0, .int .i64 0, .int .i64 0] 30) ⟨b_, _, none⟩ hbw).trans gs1
              replace gs2 := (World.cell?_alloc_lt wz (.cells #[.int .i64 0, .string ⟨#[]⟩, .int .i64 0, .int .i64 0, .int .i64 0] 30) ⟨b_, _, none⟩ hbw).trans gs2
              replace gs3 := (World.cell?_alloc_lt wz (.cells #[.int .i64 0, .string ⟨#[]⟩, .int .i64 0, .int .i64 0, .int .i64 0] 30) ⟨b_, _, none⟩ hbw).trans gs3
              replace gs4 := (World.cell?_alloc_lt wz (.cells #[.int .i64 0, .string ⟨#[]⟩, .int .i64 0, .int .i64 0, .int .i64 0] 30) ⟨b_, _, none⟩ hbw).trans gs4
              have x11 := Blk.new wz #[.int .i64 0, .string ⟨#[]⟩, .int .i64 0, .int .i64 0, .int .i64 0] 30
              have hbz12 : b_ < wz.heap.size := hbw
              have hwz12 : w.heap.size ≤ wz.heap.size := HB.out.size
              replace ho := ho.all ((Below.refl wz.heap.size wz).alloc (Nat.le_refl _) (.cells #[.int .i64 0, .string ⟨#[]⟩, .int .i64 0, .int .i64 0, .int .i64 0] 30))
              replace HB := Lib.hid (HB.out.alloc HB.out.size (.cells #[.int .i64 0, .string ⟨#[]⟩, .int .i64 0, .int .i64 0, .int .i64 0] 30))
              replace hbw : b_ < (wz.alloc (.cells #[.int .i64 0, .string ⟨#[]⟩, .int .i64 0, .int .i64 0, .int .i64 0] 30)).heap.size := Nat.lt_of_lt_of_le hbw (by simp)
              refine hK.out _ _ (by exact ⟨ga0, ga1, ga2, ga3, ga4, gs0, gs1, gs2, gs3, gs4⟩) (fun hHeld => ?_)
              clear hK K
              (try simp only [Act.put, List.getElem_toArray, List.getElem_cons_zero, List.getElem_cons_succ, List.setIfInBounds_toArray, List.set_cons_zero, List.set_cons_succ])
              refine wpAnyH_ready (rs := [5, 13]) (by kernel_rfl) (by simp) ?_
              refine AllReadyH.cons rfl (fun K hK => ?_) (AllReadyH.cons rfl (fun K hK => ?_) (AllReadyH.nil))
              · go_simp
                (with_reducible refine (l3Faded_any a ye _ ha2 ha4 hy).mono ?_)
                rintro e w11 ⟨rfl, hb5⟩
                replace ga0 := cells_of hb5 ga0 hbw
                replace ga1 := cells_of hb5 ga1 hbw
                replace ga2 := cells_of hb5 ga2 hbw
                replace ga3 := cells_of hb5 ga3 hbw
                replace ga4 := cells_of hb5 ga4 hbw
                replace gs0 := cells_of hb5 gs0 hbw
                replace gs1 := cells_of hb5 gs1 hbw
                replace gs2 := cells_of hb5 gs2 hbw
                replace gs3 := cells_of hb5 gs3 hbw
                replace gs4 := cells_of hb5 gs4 hbw
                replace x11 := x11.all hb5
                replace hbw := Nat.lt_of_lt_of_le hbw hb5.size
                replace ho := ho.all hb5
                replace HB := Lib.hid (HB.out.trans (hb5.mono HB.out.size))
                clear hb5
                refine hK.out _ _ (by exact ⟨ga0, ga1, ga2, ga3, ga4, gs0, gs1, gs2, gs3, gs4⟩) (fun hHeld => ?_)
                clear hK K
                (try simp only [Act.put, List.getElem_toArray, List.getElem_cons_zero, List.getElem_cons_succ, List.setIfInBounds_toArray, List.set_cons_zero, List.set_cons_succ])
                refine wpAnyH_ready (rs := [11, 13]) (by kernel_rfl) (by simp) ?_
                refine AllReadyH.cons rfl (fun K hK => ?_) (AllReadyH.cons rfl (fun K hK => ?_) (AllReadyH.nil))
                · go_simp
                  (with_reducible refine (l3Faded_any s ye _ hs2 hs4 hy).mono ?_)
                  rintro e w12 ⟨rfl, hb5⟩
                  replace ga0 := cells_of hb5 ga0 hbw
                  replace ga1 := cells_of hb5 ga1 hbw
                  replace ga2 := cells_of hb5 ga2 hbw
                  replace ga3 := cells_of hb5 ga3 hbw
                  replace ga4 := cells_of hb5 ga4 hbw
                  replace gs0 := cells_of hb5 gs0 hbw
                  replace gs1 := cells_of hb5 gs1 hbw
                  replace gs2 := cells_of hb5 gs2 hbw
                  replace gs3 := cells_of hb5 gs3 hbw
                  replace gs4 := cells_of hb5 gs4 hbw
                  replace x11 := x11.all hb5
                  replace hbw := Nat.lt_of_lt_of_le hbw hb5.size
                  replace ho := ho.all hb5
                  replace HB := Lib.hid (HB.out.trans (hb5.mono HB.out.size))
                  clear hb5
                  refine hK.out _ _ (by exact ⟨ga0, ga1, ga2, ga3, ga4, gs0, gs1, gs2, gs3, gs4⟩) (fun hHeld => ?_)
                  clear hK K
                  (try simp only [Act.put, List.getElem_toArray, List.getElem_cons_zero, List.getElem_cons_succ, List.setIfInBounds_toArray, List.set_cons_zero, List.set_cons_succ])
                  refine wpAnyH_ready (rs := [13]) (by kernel_rfl) (by simp) ?_
                  refine AllReadyH.cons rfl (fun K hK => ?_) (AllReadyH.nil)
                  · go_simp
                    have hpq : wz.heap.size < w12.heap.size := x11.lt
                    replace ga0 := (World.cell?_alloc_lt w12 (.cells #[.int .i64 0, .string ⟨#[]⟩, .int .i64 0, .int .i64 0, .int .i64 0] 30) ⟨b_, _, none⟩ hbw).trans ga0
                    replace ga1 := (World.cell?_alloc_lt w12 (.cells #[.int .i64 0, .string ⟨#[]⟩, .int .i64 0, .int .i64 0, .int .i64 0] 30) ⟨b_, _, none⟩ hbw).trans ga1
                    replace ga2 := (World.cell?_alloc_lt w12 (.cells #[.int .i64 0, .string ⟨#[]⟩, .int .i64 0, .int .i64 0, .int .i64 0] 30) ⟨b_, _, none⟩ hbw).trans ga2
                    replace ga3 := (World.cell?_alloc_lt w12 (.cells #[.int .i64 0, .string ⟨#[]⟩, .int .i64 0, .int .i64 0, .int .i64 0] 30) ⟨b_, _, none⟩ hbw).trans ga3
                    replace ga4 := (World.cell?_alloc_lt w12 (.cells #[.int .i64 0, .string ⟨#[]⟩, .int .i64 0, .int .i64 0, .int .i64 0] 30) ⟨b_, _, none⟩ hbw).trans ga4
                    replace gs0 := (World.cell?_alloc_lt w12 (.cells #[.int .i64 0, .string ⟨#[]⟩, .int .i64 0, .int .i64 0, .int .i64 0] 30) ⟨b_, _, none⟩ hbw).trans gs0
                    replace gs1 := (World.cell?_alloc_lt w12 (.cells #[.int .i64 0, .string ⟨#[]⟩, .int .i64 0, .int .i64 0, .int .i64 0] 30) ⟨b_, _, none⟩ hbw).trans gs1
                    replace gs2 := (World.cell?_alloc_lt w12 (.cells #[.int .i64 0, .string ⟨#[]⟩, .int .i64 0, .int .i64 0, .int .i64 0] 30) ⟨b_, _, none⟩ hbw).trans gs2
                    replace gs3 := (World.cell?_alloc_lt w12 (.cells #[.int .i64 0, .string ⟨#[]⟩, .int .i64 0, .int .i64 0, .int .i64 0] 30) ⟨b_, _, none⟩ hbw).trans gs3
                    replace gs4 := (World.cell?_alloc_lt w12 (.cells #[.int .i64 0, .string ⟨#[]⟩, .int .i64 0, .int .i64 0, .int .i64 0] 30) ⟨b_, _, none⟩ hbw).trans gs4
                    replace x11 := x11.alloc (.cells #[.int .i64 0, .string ⟨#[]⟩, .int .i64 0, .int .i64 0, .int .i64 0] 30)
                    have x12 := Blk.new w12 #[.int .i64 0, .string ⟨#[]⟩, .int .i64 0, .int .i64 0, .int .i64 0] 30
                    have hbz13 : b_ < w12.heap.size := hbw
                    have hwz13 : w.heap.size ≤ w12.heap.size := HB.out.size
                    replace ho := ho.all ((Below.refl w12.heap.size w12).alloc (Nat.le_refl _) (.cells #[.int .i64 0, .string ⟨#[]⟩, .int .i64 0, .int .i64 0, .int .i64 0] 30))
                    replace HB := Lib.hid (HB.out.alloc HB.out.size (.cells #[.int .i64 0, .string ⟨#[]⟩, .int .i64 0, .int .i64 0, .int .i64 0] 30))
                    replace hbw : b_ < (w12.alloc (.cells #[.int .i64 0, .string ⟨#[]⟩, .int .i64 0, .int .i64 0, .int .i64 0] 30)).heap.size := Nat.lt_of_lt_of_le hbw (by simp)
                    refine hK.out _ _ (by exact ⟨ga0, ga1, ga2, ga3, ga4, gs0, gs1, gs2, gs3, gs4⟩) (fun hHeld => ?_)
                    clear hK K
                    (try simp only [Act.put, List.getElem_toArray, List.getElem_cons_zero, List.getElem_cons_succ, List.setIfInBounds_toArray, List.set_cons_zero, List.set_cons_succ])
                    generalize (w12.alloc (.cells #[.int .i64 0, .string ⟨#[]⟩, .int .i64 0, .int .i64 0, .int .i64 0] 30)) = wl at *
                    have hne0 : wz.heap.size ≠ w12.heap.size := by omega
                    clear hpq
                    obtain ⟨Q, hQ⟩ : ∃ Q, w12.heap.size = Q := ⟨_, rfl⟩
                    rw [hQ] at x12 hbz13 hwz13 hne0 ⊢
                    clear hQ
                    obtain ⟨P, hP⟩ : ∃ P, wz.heap.size = P := ⟨_, rfl⟩
                    rw [hP] at x11 hbz12 hwz12 hne0 ⊢
                    clear hP
                    have hne : P ≠ Q := hne0
                    have hzz := x11.lt
                    have c0 := x11.cell 0
                    have f0 := x11.frozen 0
                    have c1 := x11.cell 1
                    have f1 := x11.frozen 1
                    have c2 := x11.cell 2
                    have f2 := x11.frozen 2
                    have c3 := x11.cell 3
                    have f3 := x11.frozen 3
                    have c4 := x11.cell 4
                    have f4 := x11.frozen 4
                    have y0 := x11
                    have z0 := x12
                    have o0 := ho
                    have o1 := o0.apart (i := 0) y0 (.int .i64 a.f0)
                    have y1 := y0.set_ 0 (.int .i64 a.f0)
                    have z1 := z0.far (a := ⟨P, 0, none⟩) (show Q ≠ P by omega) (.int .i64 a.f0)
                    have o2 := o1.apart (i := 1) y1 (.string a.f1)
                    have y2 := y1.set_ 1 (.string a.f1)
                    have z2 := z1.far (a := ⟨P, 1, none⟩) (show Q ≠ P by omega) (.string a.f1)
                    have o3 := o2.apart (i := 2) y2 (.int .i64 a.f2)
                    have y3 := y2.set_ 2 (.int .i64 a.f2)
                    have z3 := z2.far (a := ⟨P, 2, none⟩) (show Q ≠ P by omega) (.int .i64 a.f2)
                    have o4 := o3.apart (i := 3) y3 (.int .i64 (max (a.f3 - ye / (5 * a.f4)) 0))
                    have y4 := y3.set_ 3 (.int .i64 (max (a.f3 - ye / (5 * a.f4)) 0))
                    have z4 := z3.far (a := ⟨P, 3, none⟩) (show Q ≠ P by omega) (.int .i64 (max (a.f3 - ye / (5 * a.f4)) 0))
                    have o5 := o4.apart (i := 4) y4 (.int .i64 a.f4)
                    have y5 := y4.set_ 4 (.int .i64 a.f4)
                    have z5 := z4.far (a := ⟨P, 4, none⟩) (show Q ≠ P by omega) (.int .i64 a.f4)
                    replace HB := Lib.hid (((((HB.out.setCell (p := ⟨P, 0, none⟩) hwz12 (.int .i64 a.f0)).setCell (p := ⟨P, 1, none⟩) hwz12 (.string a.f1)).setCell (p := ⟨P, 2, none⟩) hwz12 (.int .i64 a.f2)).setCell (p := ⟨P, 3, none⟩) hwz12 (.int .i64 (max (a.f3 - ye / (5 * a.f4)) 0))).setCell (p := ⟨P, 4, none⟩) hwz12 (.int .i64 a.f4))
                    have hbk := ((((((Below.refl (b_ + 1) wl).setCell (p := ⟨P, 0, none⟩) hbz12 (.int .i64 a.f0)).setCell (p := ⟨P, 1, none⟩) hbz12 (.string a.f1)).setCell (p := ⟨P, 2, none⟩) hbz12 (.int .i64 a.f2)).setCell (p := ⟨P, 3, none⟩) hbz12 (.int .i64 (max (a.f3 - ye / (5 * a.f4)) 0))).setCell (p := ⟨P, 4, none⟩) hbz12 (.int .i64 a.f4))
                    replace ga0 := cells_of hbk ga0 (Nat.lt_succ_self _)
                    replace ga1 := cells_of hbk ga1 (Nat.lt_succ_self _)
                    replace ga2 := cells_of hbk ga2 (Nat.lt_succ_self _)
                    replace ga3 := cells_of hbk ga3 (Nat.lt_succ_self _)
                    replace ga4 := cells_of hbk ga4 (Nat.lt_succ_self _)
                    replace gs0 := cells_of hbk gs0 (Nat.lt_succ_self _)
                    replace gs1 := cells_of hbk gs1 (Nat.lt_succ_self _)
                    replace gs2 := cells_of hbk gs2 (Nat.lt_succ_self _)
                    replace gs3 := cells_of hbk gs3 (Nat.lt_succ_self _)
                    replace gs4 := cells_of hbk gs4 (Nat.lt_succ_self _)
                    refine wpAnyH_ready (rs := [14]) (by kernel_rfl) (by simp) ?_
                    refine AllReadyH.cons rfl (fun K hK => ?_) AllReadyH.nil
                    go_simp
                    refine hK.out _ _ (by exact ⟨ga0, ga1, ga2, ga3, ga4, gs0, gs1, gs2, gs3, gs4⟩) (fun hHeld => ?_)
                    clear hK K
                    (try simp only [Act.put, List.getElem_toArray, List.getElem_cons_zero, List.getElem_cons_succ, List.setIfInBounds_toArray, List.set_cons_zero, List.set_cons_succ])
                    replace x11 : Blk (((((wl.setCell ⟨P, 0, none⟩ (.int .i64 a.f0)).setCell ⟨P, 1, none⟩ (.string a.f1)).setCell ⟨P, 2, none⟩ (.int .i64 a.f2)).setCell ⟨P, 3, none⟩ (.int .i64 (max (a.f3 - ye / (5 * a.f4)) 0))).setCell ⟨P, 4, none⟩ (.int .i64 a.f4)) P 30 #[.int .i64 a.f0, .string a.f1, .int .i64 a.f2, .int .i64 (max (a.f3 - ye / (5 * a.f4)) 0), .int .i64 a.f4] := y5
                    replace x12 := z5
                    replace ho := o5
                    clear y0 y1 y2 y3 y4 y5 z0 z1 z2 z3 z4 z5 o0 o1 o2 o3 o4 o5 c0 f0 c1 f1 c2 f2 c3 f3 c4 f4 hbk hzz
                    generalize (((((wl.setCell ⟨P, 0, none⟩ (.int .i64 a.f0)).setCell ⟨P, 1, none⟩ (.string a.f1)).setCell ⟨P, 2, none⟩ (.int .i64 a.f2)).setCell ⟨P, 3, none⟩ (.int .i64 (max (a.f3 - ye / (5 * a.f4)) 0))).setCell ⟨P, 4, none⟩ (.int .i64 a.f4)) = wP9 at *
                    have hzz := x12.lt
                    have c0 := x12.cell 0
                    have f0 := x12.frozen 0
                    have c1 := x12.cell 1
                    have f1 := x12.frozen 1
                    have c2 := x12.cell 2
                    have f2 := x12.frozen 2
                    have c3 := x12.cell 3
                    have f3 := x12.frozen 3
                    have c4 := x12.cell 4
                    have f4 := x12.frozen 4
                    have y0 := x12
                    have z0 := x11
                    have o0 := ho
                    have o1 := o0.apart (i := 0) y0 (.int .i64 s.f0)
                    have y1 := y0.set_ 0 (.int .i64 s.f0)
                    have z1 := z0.far (a := ⟨Q, 0, none⟩) (show P ≠ Q by omega) (.int .i64 s.f0)
                    have o2 := o1.apart (i := 1) y1 (.string s.f1)
                    have y2 := y1.set_ 1 (.string s.f1)
                    have z2 := z1.far (a := ⟨Q, 1, none⟩) (show P ≠ Q by omega) (.string s.f1)
                    have o3 := o2.apart (i := 2) y2 (.int .i64 s.f2)
                    have y3 := y2.set_ 2 (.int .i64 s.f2)
                    have z3 := z2.far (a := ⟨Q, 2, none⟩) (show P ≠ Q by omega) (.int .i64 s.f2)
                    have o4 := o3.apart (i := 3) y3 (.int .i64 (max (s.f3 - ye / (5 * s.f4)) 0))
                    have y4 := y3.set_ 3 (.int .i64 (max (s.f3 - ye / (5 * s.f4)) 0))
                    have z4 := z3.far (a := ⟨Q, 3, none⟩) (show P ≠ Q by omega) (.int .i64 (max (s.f3 - ye / (5 * s.f4)) 0))
                    have o5 := o4.apart (i := 4) y4 (.int .i64 s.f4)
                    have y5 := y4.set_ 4 (.int .i64 s.f4)
                    have z5 := z4.far (a := ⟨Q, 4, none⟩) (show P ≠ Q by omega) (.int .i64 s.f4)
                    replace HB := Lib.hid (((((HB.out.setCell (p := ⟨Q, 0, none⟩) hwz13 (.int .i64 s.f0)).setCell (p := ⟨Q, 1, none⟩) hwz13 (.string s.f1)).setCell (p := ⟨Q, 2, none⟩) hwz13 (.int .i64 s.f2)).setCell (p := ⟨Q, 3, none⟩) hwz13 (.int .i64 (max (s.f3 - ye / (5 * s.f4)) 0))).setCell (p := ⟨Q, 4, none⟩) hwz13 (.int .i64 s.f4))
                    have hbk := ((((((Below.refl (b_ + 1) wP9).setCell (p := ⟨Q, 0, none⟩) hbz13 (.int .i64 s.f0)).setCell (p := ⟨Q, 1, none⟩) hbz13 (.string s.f1)).setCell (p := ⟨Q, 2, none⟩) hbz13 (.int .i64 s.f2)).setCell (p := ⟨Q, 3, none⟩) hbz13 (.int .i64 (max (s.f3 - ye / (5 * s.f4)) 0))).setCell (p := ⟨Q, 4, none⟩) hbz13 (.int .i64 s.f4))
                    replace ga0 := cells_of hbk ga0 (Nat.lt_succ_self _)
                    replace ga1 := cells_of hbk ga1 (Nat.lt_succ_self _)
                    replace ga2 := cells_of hbk ga2 (Nat.lt_succ_self _)
                    replace ga3 := cells_of hbk ga3 (Nat.lt_succ_self _)
                    replace ga4 := cells_of hbk ga4 (Nat.lt_succ_self _)
                    replace gs0 := cells_of hbk gs0 (Nat.lt_succ_self _)
                    replace gs1 := cells_of hbk gs1 (Nat.lt_succ_self _)
                    replace gs2 := cells_of hbk gs2 (Nat.lt_succ_self _)
                    replace gs3 := cells_of hbk gs3 (Nat.lt_succ_self _)
                    replace gs4 := cells_of hbk gs4 (Nat.lt_succ_self _)
                    refine wpAnyH_ready (rs := [15]) (by kernel_rfl) (by simp) ?_
                    refine AllReadyH.cons rfl (fun K hK => ?_) AllReadyH.nil
                    go_simp
                    refine hK.out _ _ (by exact ⟨ga0, ga1, ga2, ga3, ga4, gs0, gs1, gs2, gs3, gs4⟩) (fun hHeld => ?_)
                    clear hK K
                    (try simp only [Act.put, List.getElem_toArray, List.getElem_cons_zero, List.getElem_cons_succ, List.setIfInBounds_toArray, List.set_cons_zero, List.set_cons_succ])
                    replace x12 : Blk (((((wP9.setCell ⟨Q, 0, none⟩ (.int .i64 s.f0)).setCell ⟨Q, 1, none⟩ (.string s.f1)).setCell ⟨Q, 2, none⟩ (.int .i64 s.f2)).setCell ⟨Q, 3, none⟩ (.int .i64 (max (s.f3 - ye / (5 * s.f4)) 0))).setCell ⟨Q, 4, none⟩ (.int .i64 s.f4)) Q 30 #[.int .i64 s.f0, .string s.f1, .int .i64 s.f2, .int .i64 (max (s.f3 - ye / (5 * s.f4)) 0), .int .i64 s.f4] := y5
                    replace x11 := z5
                    replace ho := o5
                    clear y0 y1 y2 y3 y4 y5 z0 z1 z2 z3 z4 z5 o0 o1 o2 o3 o4 o5 c0 f0 c1 f1 c2 f2 c3 f3 c4 f4 hbk hzz
                    generalize (((((wP9.setCell ⟨Q, 0, none⟩ (.int .i64 s.f0)).setCell ⟨Q, 1, none⟩ (.string s.f1)).setCell ⟨Q, 2, none⟩ (.int .i64 s.f2)).setCell ⟨Q, 3, none⟩ (.int .i64 (max (s.f3 - ye / (5 * s.f4)) 0))).setCell ⟨Q, 4, none⟩ (.int .i64 s.f4)) = wQ9 at *
                    refine wpAnyH_done (by kernel_rfl) ?_ _
                    refine NoPanic.normal ?_
                    go_wp2_with fail
                    go_meet
                    exact ⟨rfl, P, Q, rfl, rfl, x11, x12, ho, HB.out⟩
                · go_simp
                  have hpq : wz.heap.size < w11.heap.size := x11.lt
                  replace ga0 := (World.cell?_alloc_lt w11 (.cells #[.int .i64 0, .string ⟨#[]⟩, .int .i64 0, .int .i64 0, .int .i64 0] 30) ⟨b_, _, none⟩ hbw).trans ga0
                  replace ga1 := (World.cell?_alloc_lt w11 (.cells #[.int .i64 0, .string ⟨#[]⟩, .int .i64 0, .int .i64 0, .int .i64 0] 30) ⟨b_, _, none⟩ hbw).trans ga1
                  replace ga2 := (World.cell?_alloc_lt w11 (.cells #[.int .i64 0, .string ⟨#[]⟩, .int .i64 0, .int .i64 0, .int .i64 0] 30) ⟨b_, _, none⟩ hbw).trans ga2
                  replace ga3 := (World.cell?_alloc_lt w11 (.cells #[.int .i64 0, .string ⟨#[]⟩, .int .i64 0, .int .i64 0, .int .i64 0] 30) ⟨b_, _, none⟩ hbw).trans ga3
                  replace ga4 := (World.cell?_alloc_lt w11 (.cells #[.int .i64 0, .string ⟨#[]⟩, .int .i64 0, .int .i64 0, .int .i64 0] 30) ⟨b_, _, none⟩ hbw).trans ga4
                  replace gs0 := (World.cell?_alloc_lt w11 (.cells #[.int .i64 0, .string ⟨#[]⟩, .int .i64 0, .int .i64 0, .int .i64 0] 30) ⟨b_, _, none⟩ hbw).trans gs0
                  replace gs1 := (World.cell?_alloc_lt w11 (.cells #[.int .i64 0, .string ⟨#[]⟩, .int .i64 0, .int .i64 0, .int .i64 0] 30) ⟨b_, _, none⟩ hbw).trans gs1
                  replace gs2 := (World.cell?_alloc_lt w11 (.cells #[.int .i64 0, .string ⟨#[]⟩, .int .i64 0, .int .i64 0, .int .i64 0] 30) ⟨b_, _, none⟩ hbw).trans gs2
                  replace gs3 := (World.cell?_alloc_lt w11 (.cells #[.int .i64 0, .string ⟨#[]⟩, .int .i64 0, .int .i64 0, .int .i64 0] 30) ⟨b_, _, none⟩ hbw).trans gs3
                  replace gs4 := (World.cell?_alloc_lt w11 (.cells #[.int .i64 0, .string ⟨#[]⟩, .int .i64 0, .int .i64 0, .int .i64 0] 30) ⟨b_, _, none⟩ hbw).trans gs4
                  replace x11 := x11.alloc (.cells #[.int .i64 0, .string ⟨#[]⟩, .int .i64 0, .int .i64 0, .int .i64 0] 30)
                  have x12 := Blk.new w11 #[.int .i64 0, .string ⟨#[]⟩, .int .i64 0, .int .i64 0, .int .i64 0] 30
                  have hbz13 : b_ < w11.heap.size := hbw
                  have hwz13 : w.heap.size ≤ w11.heap.size := HB.out.size
                  replace ho := ho.all ((Below.refl w11.heap.size w11).alloc (Nat.le_refl _) (.cells #[.int .i64 0, .string ⟨#[]⟩, .int .i64 0, .int .i64 0, .int .i64 0] 30))
                  replace HB := Lib.hid (HB.out.alloc HB.out.size (.cells #[.int .i64 0, .string ⟨#[]⟩, .int .i64 0, .int .i64 0, .int .i64 0] 30))
                  replace hbw : b_ < (w11.alloc (.cells #[.int .i64 0, .string ⟨#[]⟩, .int .i64 0, .int .i64 0, .int .i64 0] 30)).heap.size := Nat.lt_of_lt_of_le hbw (by simp)
                  refine hK.out _ _ (by exact ⟨ga0, ga1, ga2, ga3, ga4, gs0, gs1, gs2, gs3, gs4⟩) (fun hHeld => ?_)
                  clear hK K
                  (try simp only [Act.put, List.getElem_toArray, List.getElem_cons_zero, List.getElem_cons_succ, List.setIfInBounds_toArray, List.set_cons_zero, List.set_cons_succ])
                  refine wpAnyH_ready (rs := [11]) (by kernel_rfl) (by simp) ?_
                  refine AllReadyH.cons rfl (fun K hK => ?_) (AllReadyH.nil)
                  · go_simp
                    (with_reducible refine (l3Faded_any s ye _ hs2 hs4 hy).mono ?_)
                    rintro e w12 ⟨rfl, hb5⟩
                    replace ga0 := cells_of hb5 ga0 hbw
                    replace ga1 := cells_of hb5 ga1 hbw
                    replace ga2 := cells_of hb5 ga2 hbw
                    replace ga3 := cells_of hb5 ga3 hbw
                    replace ga4 := cells_of hb5 ga4 hbw
                    replace gs0 := cells_of hb5 gs0 hbw
                    replace gs1 := cells_of hb5 gs1 hbw
                    replace gs2 := cells_of hb5 gs2 hbw
                    replace gs3 := cells_of hb5 gs3 hbw
                    replace gs4 := cells_of hb5 gs4 hbw
                    replace x11 := x11.all hb5
                    replace x12 := x12.all hb5
                    replace hbw := Nat.lt_of_lt_of_le hbw hb5.size
                    replace ho := ho.all hb5
                    replace HB := Lib.hid (HB.out.trans (hb5.mono HB.out.size))
                    clear hb5
                    refine hK.out _ _ (by exact ⟨ga0, ga1, ga2, ga3, ga4, gs0, gs1, gs2, gs3, gs4⟩) (fun hHeld => ?_)
                    clear hK K
                    (try simp only [Act.put, List.getElem_toArray, List.getElem_cons_zero, List.getElem_cons_succ, List.setIfInBounds_toArray, List.set_cons_zero, List.set_cons_succ])
                    have hne0 : wz.heap.size ≠ w11.heap.size := by omega
                    clear hpq
                    obtain ⟨Q, hQ⟩ : ∃ Q, w11.heap.size = Q := ⟨_, rfl⟩
                    rw [hQ] at x12 hbz13 hwz13 hne0 ⊢
                    clear hQ
                    obtain ⟨P, hP⟩ : ∃ P, wz.heap.size = P := ⟨_, rfl⟩
                    rw [hP] at x11 hbz12 hwz12 hne0 ⊢
                    clear hP
                    have hne : P ≠ Q := hne0
                    have hzz := x11.lt
                    have c0 := x11.cell 0
                    have f0 := x11.frozen 0
                    have c1 := x11.cell 1
                    have f1 := x11.frozen 1
                    have c2 := x11.cell 2
                    have f2 := x11.frozen 2
                    have c3 := x11.cell 3
                    have f3 := x11.frozen 3
                    have c4 := x11.cell 4
                    have f4 := x11.frozen 4
                    have y0 := x11
                    have z0 := x12
                    have o0 := ho
                    have o1 := o0.apart (i := 0) y0 (.int .i64 a.f0)
                    have y1 := y0.set_ 0 (.int .i64 a.f0)
                    have z1 := z0.far (a := ⟨P, 0, none⟩) (show Q ≠ P by omega) (.int .i64 a.f0)
                    have o2 := o1.apart (i := 1) y1 (.string a.f1)
                    have y2 := y1.set_ 1 (.string a.f1)
                    have z2 := z1.far (a := ⟨P, 1, none⟩) (show Q ≠ P by omega) (.string a.f1)
                    have o3 := o2.apart (i := 2) y2 (.int .i64 a.f2)
                    have y3 := y2.set_ 2 (.int .i64 a.f2)
                    have z3 := z2.far (a := ⟨P, 2, none⟩) (show Q ≠ P by omega) (.int .i64 a.f2)
                    have o4 := o3.apart (i := 3) y3 (.int .i64 (max (a.f3 - ye / (5 * a.f4)) 0))
                    have y4 := y3.set_ 3 (.int .i64 (max (a.f3 - ye / (5 * a.f4)) 0))
                    have z4 := z3.far (a := ⟨P, 3, none⟩) (show Q ≠ P by omega) (.int .i64 (max (a.f3 - ye / (5 * a.f4)) 0))
                    have o5 := o4.apart (i := 4) y4 (.int .i64 a.f4)
                    have y5 := y4.set_ 4 (.int .i64 a.f4)
                    have z5 := z4.far (a := ⟨P, 4, none⟩) (show Q ≠ P by omega) (.int .i64 a.f4)
                    replace HB := Lib.hid (((((HB.out.setCell (p := ⟨P, 0, none⟩) hwz12 (.int .i64 a.f0)).setCell (p := ⟨P, 1, none⟩) hwz12 (.string a.f1)).setCell (p := ⟨P, 2, none⟩) hwz12 (.int .i64 a.f2)).setCell (p := ⟨P, 3, none⟩) hwz12 (.int .i64 (max (a.f3 - ye / (5 * a.f4)) 0))).setCell (p := ⟨P, 4, none⟩) hwz12 (.int .i64 a.f4))
                    have hbk := ((((((Below.refl (b_ + 1) w12).setCell (p := ⟨P, 0, none⟩) hbz12 (.int .i64 a.f0)).setCell (p := ⟨P, 1, none⟩) hbz12 (.string a.f1)).setCell (p := ⟨P, 2, none⟩) hbz12 (.int .i64 a.f2)).setCell (p := ⟨P, 3, none⟩) hbz12 (.int .i64 (max (a.f3 - ye / (5 * a.f4)) 0))).setCell (p := ⟨P, 4, none⟩) hbz12 (.int .i64 a.f4))
                    replace ga0 := cells_of hbk ga0 (Nat.lt_succ_self _)
                    replace ga1 := cells_of hbk ga1 (Nat.lt_succ_self _)
                    replace ga2 := cells_of hbk ga2 (Nat.lt_succ_self _)
                    replace ga3 := cells_of hbk ga3 (Nat.lt_succ_self _)
                    replace ga4 := cells_of hbk ga4 (Nat.lt_succ_self _)
                    replace gs0 := cells_of hbk gs0 (Nat.lt_succ_self _)
                    replace gs1 := cells_of hbk gs1 (Nat.lt_succ_self _)
                    replace gs2 := cells_of hbk gs2 (Nat.lt_succ_self _)
                    replace gs3 := cells_of hbk gs3 (Nat.lt_succ_self _)
                    replace gs4 := cells_of hbk gs4 (Nat.lt_succ_self _)
                    refine wpAnyH_ready (rs := [14]) (by kernel_rfl) (by simp) ?_
                    refine AllReadyH.cons rfl (fun K hK => ?_) AllReadyH.nil
                    go_simp
                    refine hK.out _ _ (by exact ⟨ga0, ga1, ga2, ga3, ga4, gs0, gs1, gs2, gs3, gs4⟩) (fun hHeld => ?_)
                    clear hK K
                    (try simp only [Act.put, List.getElem_toArray, List.getElem_cons_zero, List.getElem_cons_succ, List.setIfInBounds_toArray, List.set_cons_zero, List.set_cons_succ])
                    replace x11 : Blk (((((w12.setCell ⟨P, 0, none⟩ (.int .i64 a.f0)).setCell ⟨P, 1, none⟩ (.string a.f1)).setCell ⟨P, 2, none⟩ (.int .i64 a.f2)).setCell ⟨P, 3, none⟩ (.int .i64 (max (a.f3 - ye / (5 * a.f4)) 0))).setCell ⟨P, 4, none⟩ (.int .i64 a.f4)) P 30 #[.int .i64 a.f0, .string a.f1, .int .i64 a.f2, .int .i64 (max (a.f3 - ye / (5 * a.f4)) 0), .int .i64 a.f4] := y5
                    replace x12 := z5
                    replace ho := o5
                    clear y0 y1 y2 y3 y4 y5 z0 z1 z2 z3 z4 z5 o0 o1 o2 o3 o4 o5 c0 f0 c1 f1 c2 f2 c3 f3 c4 f4 hbk hzz
                    generalize (((((w12.setCell ⟨P, 0, none⟩ (.int .i64 a.f0)).setCell ⟨P, 1, none⟩ (.string a.f1)).setCell ⟨P, 2, none⟩ (.int .i64 a.f2)).setCell ⟨P, 3, none⟩ (.int .i64 (max (a.f3 - ye / (5 * a.f4)) 0))).setCell ⟨P, 4, none⟩ (.int .i64 a.f4)) = wP9 at *
                    have hzz := x12.lt
                    have c0 := x12.cell 0
                    have f0 := x12.frozen 0
                    have c1 := x12.cell 1
                    have f1 := x12.frozen 1
                    have c2 := x12.cell 2
                    have f2 := x12.frozen 2
                    have c3 := x12.cell 3
                    have f3 := x12.frozen 3
                    have c4 := x12.cell 4
                    have f4 := x12.frozen 4
                    have y0 := x12
                    have z0 := x11
                    have o0 := ho
                    have o1 := o0.apart (i := 0) y0 (.int .i64 s.f0)
                    have y1 := y0.set_ 0 (.int .i64 s.f0)
                    have z1 := z0.far (a := ⟨Q, 0, none⟩) (show P ≠ Q by omega) (.int .i64 s.f0)
                    have o2 := o1.apart (i := 1) y1 (.string s.f1)
                    have y2 := y1.set_ 1 (.string s.f1)
                    have z2 := z1.far (a := ⟨Q, 1, none⟩) (show P ≠ Q by omega) (.string s.f1)
                    have o3 := o2.apart (i := 2) y2 (.int .i64 s.f2)
                    have y3 := y2.set_ 2 (.int .i64 s.f2)
                    have z3 := z2.far (a := ⟨Q, 2, none⟩) (show P ≠ Q by omega) (.int .i64 s.f2)
                    have o4 := o3.apart (i := 3) y3 (.int .i64 (max (s.f3 - ye / (5 * s.f4)) 0))
                    have y4 := y3.set_ 3 (.int .i64 (max (s.f3 - ye / (5 * s.f4)) 0))
                    have z4 := z3.far (a := ⟨Q, 3, none⟩) (show P ≠ Q by omega) (.int .i64 (max (s.f3 - ye / (5 * s.f4)) 0))
                    have o5 := o4.apart (i := 4) y4 (.int .i64 s.f4)
                    have y5 := y4.set_ 4 (.int .i64 s.f4)
                    have z5 := z4.far (a := ⟨Q, 4, none⟩) (show P ≠ Q by omega) (.int .i64 s.f4)
                    replace HB := Lib.hid (((((HB.out.setCell (p := ⟨Q, 0, none⟩) hwz13 (.int .i64 s.f0)).setCell (p := ⟨Q, 1, none⟩) hwz13 (.string s.f1)).setCell (p := ⟨Q, 2, none⟩) hwz13 (.int .i64 s.f2)).setCell (p := ⟨Q, 3, none⟩) hwz13 (.int .i64 (max (s.f3 - ye / (5 * s.f4)) 0))).setCell (p := ⟨Q, 4, none⟩) hwz13 (.int .i64 s.f4))
                    have hbk := ((((((Below.refl (b_ + 1) wP9).setCell (p := ⟨Q, 0, none⟩) hbz13 (.int .i64 s.f0)).setCell (p := ⟨Q, 1, none⟩) hbz13 (.string s.f1)).setCell (p := ⟨Q, 2, none⟩) hbz13 (.int .i64 s.f2)).setCell (p := ⟨Q, 3, none⟩) hbz13 (.int .i64 (max (s.f3 - ye / (5 * s.f4)) 0))).setCell (p := ⟨Q, 4, none⟩) hbz13 (.int .i64 s.f4))
                    replace ga0 := cells_of hbk ga0 (Nat.lt_succ_self _)
                    replace ga1 := cells_of hbk ga1 (Nat.lt_succ_self _)
                    replace ga2 := cells_of hbk ga2 (Nat.lt_succ_self _)
                    replace ga3 := cells_of hbk ga3 (Nat.lt_succ_self _)
                    replace ga4 := cells_of hbk ga4 (Nat.lt_succ_self _)
                    replace gs0 := cells_of hbk gs0 (Nat.lt_succ_self _)
                    replace gs1 := cells_of hbk gs1 (Nat.lt_succ_self _)
                    replace gs2 := cells_of hbk gs2 (Nat.lt_succ_self _)
                    replace gs3 := cells_of hbk gs3 (Nat.lt_succ_self _)
                    replace gs4 := cells_of hbk gs4 (Nat.lt_succ_self _)
                    refine wpAnyH_ready (rs := [15]) (by kernel_rfl) (by simp) ?_
                    refine AllReadyH.cons rfl (fun K hK => ?_) AllReadyH.nil
                    go_simp
                    refine hK.out _ _ (by exact ⟨ga0, ga1, ga2, ga3, ga4, gs0, gs1, gs2, gs3, gs4⟩) (fun hHeld => ?_)
                    clear hK K
                    (try simp only [Act.put, List.getElem_toArray, List.getElem_cons_zero, List.getElem_cons_succ, List.setIfInBounds_toArray, List.set_cons_zero, List.set_cons_succ])
                    replace x12 : Blk (((((wP9.setCell ⟨Q, 0, none⟩ (.int .i64 s.f0)).setCell ⟨Q, 1, none⟩ (.string s.f1)).setCell ⟨Q, 2, none⟩ (.int .i64 s.f2)).setCell ⟨Q, 3, none⟩ (.int .i64 (max (s.f3 - ye / (5 * s.f4)) 0))).setCell ⟨Q, 4, none⟩ (.int .i64 s.f4)) Q 30 #[.int .i64 s.f0, .string s.f1, .int .i64 s.f2, .int .i64 (max (s.f3 - ye / (5 * s.f4)) 0), .int .i64 s.f4] := y5
                    replace x11 := z5
                    replace ho := o5
                    clear y0 y1 y2 y3 y4 y5 z0 z1 z2 z3 z4 z5 o0 o1 o2 o3 o4 o5 c0 f0 c1 f1 c2 f2 c3 f3 c4 f4 hbk hzz
                    generalize (((((wP9.setCell ⟨Q, 0, none⟩ (.int .i64 s.f0)).setCell ⟨Q, 1, none⟩ (.string s.f1)).setCell ⟨Q, 2, none⟩ (.int .i64 s.f2)).setCell ⟨Q, 3, none⟩ (.int .i64 (max (s.f3 - ye / (5 * s.f4)) 0))).setCell ⟨Q, 4, none⟩ (.int .i64 s.f4)) = wQ9 at *
                    refine wpAnyH_done (by kernel_rfl) ?_ _
                    refine NoPanic.normal ?_
                    go_wp2_with fail
                    go_meet
                    exact ⟨rfl, P, Q, rfl, rfl, x11, x12, ho, HB.out⟩
              · go_simp
                have hpq : wz.heap.size < (wz.alloc (.cells #[.int .i64 0, .string ⟨#[]⟩, .int .i64 0, .int .i64 0, .int .i64 0] 30)).heap.size := x11.lt
                replace ga0 := (World.cell?_alloc_lt (wz.alloc (.cells #[.int .i64 0, .string ⟨#[]⟩, .int .i64 0, .int .i64 0, .int .i64 0] 30)) (.cells #[.int .i64 0, .string ⟨#[]⟩, .int .i64 0, .int .i64 0, .int .i64 0] 30) ⟨b_, _, none⟩ hbw).trans ga0
                replace ga1 := (World.cell?_alloc_lt (wz.alloc (.cells #[.int .i64 0, .string ⟨#[]⟩, .int .i64 0, .int .i64 0, .int .i64 0] 30)) (.cells #[.int .i64 0, .string ⟨#[]⟩, .int .i64 0, .int .i64 0, .int .i64 0] 30) ⟨b_, _, none⟩ hbw).trans ga1
                replace ga2 := (World.cell?_alloc_lt (wz.alloc (.cells #[.int .i64 0, .string ⟨#[]⟩, .int .i64 0, .int .i64 0, .int .i64 0] 30)) (.cells #[.int .i64 0, .string ⟨#[]⟩, .int .i64 0, .int .i64 0, .int .i64 0] 30) ⟨b_, _, none⟩ hbw).trans ga2
                replace ga3 := (World.cell?_alloc_lt (wz.alloc (.cells #[.int .i64 0, .string ⟨#[]⟩, .int .i64 0, .int .i64 0, .int .i64 0] 30)) (.cells #[.int .i64 0, .string ⟨#[]⟩, .int .i64 0, .int .i64 0, .int .i64 0] 30) ⟨b_, _, none⟩ hbw).trans ga3
                replace ga4 := (World.cell?_alloc_lt (wz.alloc (.cells #[.int .i64 0, .string ⟨#[]⟩, .int .i64 0, .int .i64 0, .int .i64 0] 30)) (.cells #[.int .i64 0, .string ⟨#[]⟩, .int .i64 0, .int .i64 0, .int .i64 0] 30) ⟨b_, _, none⟩ hbw).trans ga4
                replace gs0 := (World.cell?_alloc_lt (wz.alloc (.cells #[.int .i64 0, .string ⟨#[]⟩, .int .i64 0, .int .i64 0, .int .i64 0] 30)) (.cells #[.int .i64 0, .string ⟨#[]⟩, .int .i64 0, .int .i64 0, .int .i64 0] 30) ⟨b_, _, none⟩ hbw).trans gs0
                replace gs1 := (World.cell?_alloc_lt (wz.alloc (.cells #[.int .i64 0, .string ⟨#[]⟩, .int .i64 0, .int .i64 0, .int .i64 0] 30)) (.cells #[.int .i64 0, .string ⟨#[]⟩, .int .i64 0, .int .i64 0, .int .i64 0] 30) ⟨b_, _, none⟩ hbw).trans gs1
                replace gs2 := (World.cell?_alloc_lt (wz.alloc (.cells #[.int .i64 0, .string ⟨#[]⟩, .int .i64 0, .int .i64 0, .int .i64 0] 30)) (.cells #[.int .i64 0, .string ⟨#[]⟩, .int .i64 0, .int .i64 0, .int .i64 0] 30) ⟨b_, _, none⟩ hbw).trans gs2
                replace gs3 := (World.cell?_alloc_lt (wz.alloc (.cells #[.int .i64 0, .string ⟨#[]⟩, .int .i64 0, .int .i64 0, .int .i64 0] 30)) (.cells #[.int .i64 0, .string ⟨#[]⟩, .int .i64 0, .int .i64 0, .int .i64 0] 30) ⟨b_, _, none⟩ hbw).trans gs3
                replace gs4 := (World.cell?_alloc_lt (wz.alloc (.cells #[.int .i64 0, .string ⟨#[]⟩, .int .i64 0, .int .i64 0, .int .i64 0] 30)) (.cells #[.int .i64 0, .string ⟨#[]⟩, .int .i64 0, .int .i64 0, .int .i64 0] 30) ⟨b_, _, none⟩ hbw).trans gs4
                replace x11 := x11.alloc (.cells #[.int .i64 0, .string ⟨#[]⟩, .int .i64 0, .int .i64 0, .int .i64 0] 30)
                have x12 := Blk.new (wz.alloc (.cells #[.int .i64 0, .string ⟨#[]⟩, .int .i64 0, .int .i64 0, .int .i64 0] 30)) #[.int .i64 0, .string ⟨#[]⟩, .int .i64 0, .int .i64 0, .int .i64 0] 30
                have hbz13 : b_ < (wz.alloc (.cells #[.int .i64 0, .string ⟨#[]⟩, .int .i64 0, .int .i64 0, .int .i64 0] 30)).heap.size := hbw
                have hwz13 : w.heap.size ≤ (wz.alloc (.cells #[.int .i64 0, .string ⟨#[]⟩, .int .i64 0, .int .i64 0, .int .i64 0] 30)).heap.size := HB.out.size
                rw [show (wz.alloc (.cells #[.int .i64 0, .string ⟨#[]⟩, .int .i64 0, .int .i64 0, .int .i64 0] 30)).heap.size = wz.heap.size + 1 by simp] at x12 hbz13 hwz13 hpq
                replace ho := ho.all ((Below.refl (wz.alloc (.cells #[.int .i64 0, .string ⟨#[]⟩, .int .i64 0, .int .i64 0, .int .i64 0] 30)).heap.size (wz.alloc (.cells #[.int .i64 0, .string ⟨#[]⟩, .int .i64 0, .int .i64 0, .int .i64 0] 30))).alloc (Nat.le_refl _) (.cells #[.int .i64 0, .string ⟨#[]⟩, .int .i64 0, .int .i64 0, .int .i64 0] 30))
                replace HB := Lib.hid (HB.out.alloc HB.out.size (.cells #[.int .i64 0, .string ⟨#[]⟩, .int .i64 0, .int .i64 0, .int .i64 0] 30))
                replace hbw : b_ < ((wz.alloc (.cells #[.int .i64 0, .string ⟨#[]⟩, .int .i64 0, .int .i64 0, .int .i64 0] 30)).alloc (.cells #[.int .i64 0, .string ⟨#[]⟩, .int .i64 0, .int .i64 0, .int .i64 0] 30)).heap.size := Nat.lt_of_lt_of_le hbw (by simp)
                refine hK.out _ _ (by exact ⟨ga0, ga1, ga2, ga3, ga4, gs0, gs1, gs2, gs3, gs4⟩) (fun hHeld => ?_)
                clear hK K
                (try simp only [Act.put, List.getElem_toArray, List.getElem_cons_zero, List.getElem_cons_succ, List.setIfInBounds_toArray, List.set_cons_zero, List.set_cons_succ])
                refine wpAnyH_ready (rs := [5]) (by kernel_rfl) (by simp) ?_
                refine AllReadyH.cons rfl (fun K hK => ?_) (AllReadyH.nil)
                · go_simp
                  (with_reducible refine (l3Faded_any a ye _ ha2 ha4 hy).mono ?_)
                  rintro e w11 ⟨rfl, hb5⟩
                  replace ga0 := cells_of hb5 ga0 hbw
                  replace ga1 := cells_of hb5 ga1 hbw
                  replace ga2 := cells_of hb5 ga2 hbw
                  replace ga3 := cells_of hb5 ga3 hbw
                  replace ga4 := cells_of hb5 ga4 hbw
                  replace gs0 := cells_of hb5 gs0 hbw
                  replace gs1 := cells_of hb5 gs1 hbw
                  replace gs2 := cells_of hb5 gs2 hbw
                  replace gs3 := cells_of hb5 gs3 hbw
                  replace gs4 := cells_of hb5 gs4 hbw
                  replace x11 := x11.all hb5
                  replace x12 := x12.all hb5
                  replace hbw := Nat.lt_of_lt_of_le hbw hb5.size
                  replace ho := ho.all hb5
                  replace HB := Lib.hid (HB.out.trans (hb5.mono HB.out.size))
                  clear hb5
                  refine hK.out _ _ (by exact ⟨ga0, ga1, ga2, ga3, ga4, gs0, gs1, gs2, gs3, gs4⟩) (fun hHeld => ?_)
                  clear hK K
                  (try simp only [Act.put, List.getElem_toArray, List.getElem_cons_zero, List.getElem_cons_succ, List.setIfInBounds_toArray, List.set_cons_zero, List.set_cons_succ])
                  refine wpAnyH_ready (rs := [11]) (by kernel_rfl) (by simp) ?_
                  refine AllReadyH.cons rfl (fun K hK => ?_) (AllReadyH.nil)
                  · go_simp
                    (with_reducible refine (l3Faded_any s ye _ hs2 hs4 hy).mono ?_)
                    rintro e w12 ⟨rfl, hb5⟩
                    replace ga0 := cells_of hb5 ga0 hbw
                    replace ga1 := cells_of hb5 ga1 hbw
                    replace ga2 := cells_of hb5 ga2 hbw
                    replace ga3 := cells_of hb5 ga3 hbw
                    replace ga4 := cells_of hb5 ga4 hbw
                    replace gs0 := cells_of hb5 gs0 hbw
                    replace gs1 := cells_of hb5 gs1 hbw
                    replace gs2 := cells_of hb5 gs2 hbw
                    replace gs3 := cells_of hb5 gs3 hbw
                    replace gs4 := cells_of hb5 gs4 hbw
                    replace x11 := x11.all hb5
                    replace x12 := x12.all hb5
                    replace hbw := Nat.lt_of_lt_of_le hbw hb5.size
                    replace ho := ho.all hb5
                    replace HB := Lib.hid (HB.out.trans (hb5.mono HB.out.size))
                    clear hb5
                    refine hK.out _ _ (by exact ⟨ga0, ga1, ga2, ga3, ga4, gs0, gs1, gs2, gs3, gs4⟩) (fun hHeld => ?_)
                    clear hK K
                    (try simp only [Act.put, List.getElem_toArray, List.getElem_cons_zero, List.getElem_cons_succ, List.setIfInBounds_toArray, List.set_cons_zero, List.set_cons_succ])
                    have hne0 : wz.heap.size ≠ wz.heap.size + 1 := by omega
                    clear hpq
                    obtain ⟨Q, hQ⟩ : ∃ Q, wz.heap.size + 1 = Q := ⟨_, rfl⟩
                    rw [hQ] at x12 hbz13 hwz13 hne0 ⊢
                    clear hQ
                    obtain ⟨P, hP⟩ : ∃ P, wz.heap.size = P := ⟨_, rfl⟩
                    rw [hP] at x11 hbz12 hwz12 hne0 ⊢
                    clear hP
                    have hne : P ≠ Q := hne0
                    have hzz := x11.lt
                    have c0 := x11.cell 0
                    have f0 := x11.frozen 0
                    have c1 := x11.cell 1
                    have f1 := x11.frozen 1
                    have c2 := x11.cell 2
                    have f2 := x11.frozen 2
                    have c3 := x11.cell 3
                    have f3 := x11.frozen 3
                    have c4 := x11.cell 4
                    have f4 := x11.frozen 4
                    have y0 := x11
                    have z0 := x12
                    have o0 := ho
                    have o1 := o0.apart (i := 0) y0 (.int .i64 a.f0)
                    have y1 := y0.set_ 0 (.int .i64 a.f0)
                    have z1 := z0.far (a := ⟨P, 0, none⟩) (show Q ≠ P by omega) (.int .i64 a.f0)
                    have o2 := o1.apart (i := 1) y1 (.string a.f1)
                    have y2 := y1.set_ 1 (.string a.f1)
                    have z2 := z1.far (a := ⟨P, 1, none⟩) (show Q ≠ P by omega) (.string a.f1)
                    have o3 := o2.apart (i := 2) y2 (.int .i64 a.f2)
                    have y3 := y2.set_ 2 (.int .i64 a.f2)
                    have z3 := z2.far (a := ⟨P, 2, none⟩) (show Q ≠ P by omega) (.int .i64 a.f2)
                    have o4 := o3.apart (i := 3) y3 (.int .i64 (max (a.f3 - ye / (5 * a.f4)) 0))
                    have y4 := y3.set_ 3 (.int .i64 (max (a.f3 - ye / (5 * a.f4)) 0))
                    have z4 := z3.far (a := ⟨P, 3, none⟩) (show Q ≠ P by omega) (.int .i64 (max (a.f3 - ye / (5 * a.f4)) 0))
                    have o5 := o4.apart (i := 4) y4 (.int .i64 a.f4)
                    have y5 := y4.set_ 4 (.int .i64 a.f4)
                    have z5 := z4.far (a := ⟨P, 4, none⟩) (show Q ≠ P by omega) (.int .i64 a.f4)
                    replace HB := Lib.hid (((((HB.out.setCell (p := ⟨P, 0, none⟩) hwz12 (.int .i64 a.f0)).setCell (p := ⟨P, 1, none⟩) hwz12 (.string a.f1)).setCell (p := ⟨P, 2, none⟩) hwz12 (.int .i64 a.f2)).setCell (p := ⟨P, 3, none⟩) hwz12 (.int .i64 (max (a.f3 - ye / (5 * a.f4)) 0))).setCell (p := ⟨P, 4, none⟩) hwz12 (.int .i64 a.f4))
                    have hbk := ((((((Below.refl (b_ + 1) w12).setCell (p := ⟨P, 0, none⟩) hbz12 (.int .i64 a.f0)).setCell (p := ⟨P, 1, none⟩) hbz12 (.string a.f1)).setCell (p := ⟨P, 2, none⟩) hbz12 (.int .i64 a.f2)).setCell (p := ⟨P, 3, none⟩) hbz12 (.int .i64 (max (a.f3 - ye / (5 * a.f4)) 0))).setCell (p := ⟨P, 4, none⟩) hbz12 (.int .i64 a.f4))
                    replace ga0 := cells_of hbk ga0 (Nat.lt_succ_self _)
                    replace ga1 := cells_of hbk ga1 (Nat.lt_succ_self _)
                    replace ga2 := cells_of hbk ga2 (Nat.lt_succ_self _)
                    replace ga3 := cells_of hbk ga3 (Nat.lt_succ_self _)
                    replace ga4 := cells_of hbk ga4 (Nat.lt_succ_self _)
                    replace gs0 := cells_of hbk gs0 (Nat.lt_succ_self _)
                    replace gs1 := cells_of hbk gs1 (Nat.lt_succ_self _)
                    replace gs2 := cells_of hbk gs2 (Nat.lt_succ_self _)
                    replace gs3 := cells_of hbk gs3 (Nat.lt_succ_self _)
                    replace gs4 := cells_of hbk gs4 (Nat.lt_succ_self _)
                    refine wpAnyH_ready (rs := [14]) (by kernel_rfl) (by simp) ?_
                    refine AllReadyH.cons rfl (fun K hK => ?_) AllReadyH.nil
                    go_simp
                    refine hK.out _ _ (by exact ⟨ga0, ga1, ga2, ga3, ga4, gs0, gs1, gs2, gs3, gs4⟩) (fun hHeld => ?_)
                    clear hK K
                    (try simp only [Act.put, List.getElem_toArray, List.getElem_cons_zero, List.getElem_cons_succ, List.setIfInBounds_toArray, List.set_cons_zero, List.set_cons_succ])
                    replace x11 : Blk (((((w12.setCell ⟨P, 0, none⟩ (.int .i64 a.f0)).setCell ⟨P, 1, none⟩ (.string a.f1)).setCell ⟨P, 2, none⟩ (.int .i64 a.f2)).setCell ⟨P, 3, none⟩ (.int .i64 (max (a.f3 - ye / (5 * a.f4)) 0))).setCell ⟨P, 4, none⟩ (.int .i64 a.f4)) P 30 #[.int .i64 a.f0, .string a.f1, .int .i64 a.f2, .int .i64 (max (a.f3 - ye / (5 * a.f4)) 0), .int .i64 a.f4] := y5
                    replace x12 := z5
                    replace ho := o5
                    clear y0 y1 y2 y3 y4 y5 z0 z1 z2 z3 z4 z5 o0 o1 o2 o3 o4 o5 c0 f0 c1 f1 c2 f2 c3 f3 c4 f4 hbk hzz
                    generalize (((((w12.setCell ⟨P, 0, none⟩ (.int .i64 a.f0)).setCell ⟨P, 1, none⟩ (.string a.f1)).setCell ⟨P, 2, none⟩ (.int .i64 a.f2)).setCell ⟨P, 3, none⟩ (.int .i64 (max (a.f3 - ye / (5 * a.f4)) 0))).setCell ⟨P, 4, none⟩ (.int .i64 a.f4)) = wP9 at *
                    have hzz := x12.lt
                    have c0 := x12.cell 0
                    have f0 := x12.frozen 0
                    have c1 := x12.cell 1
                    have f1 := x12.frozen 1
                    have c2 := x12.cell 2
                    have f2 := x12.frozen 2
                    have c3 := x12.cell 3
                    have f3 := x12.frozen 3
                    have c4 := x12.cell 4
                    have f4 := x12.frozen 4
                    have y0 := x12
                    have z0 := x11
                    have o0 := ho
                    have o1 := o0.apart (i := 0) y0 (.int .i64 s.f0)
                    have y1 := y0.set_ 0 (.int .i64 s.f0)
                    have z1 := z0.far (a := ⟨Q, 0, none⟩) (show P ≠ Q by omega) (.int .i64 s.f0)
                    have o2 := o1.apart (i := 1) y1 (.string s.f1)
                    have y2 := y1.set_ 1 (.string s.f1)
                    have z2 := z1.far (a := ⟨Q, 1, none⟩) (show P ≠ Q by omega) (.string s.f1)
                    have o3 := o2.apart (i := 2) y2 (.int .i64 s.f2)
                    have y3 := y2.set_ 2 (.int .i64 s.f2)
                    have z3 := z2.far (a := ⟨Q, 2, none⟩) (show P ≠ Q by omega) (.int .i64 s.f2)
                    have o4 := o3.apart (i := 3) y3 (.int .i64 (max (s.f3 - ye / (5 * s.f4)) 0))
                    have y4 := y3.set_ 3 (.int .i64 (max (s.f3 - ye / (5 * s.f4)) 0))
                    have z4 := z3.far (a := ⟨Q, 3, none⟩) (show P ≠ Q by omega) (.int .i64 (max (s.f3 - ye / (5 * s.f4)) 0))
                    have o5 := o4.apart (i := 4) y4 (.int .i64 s.f4)
                    have y5 := y4.set_ 4 (.int .i64 s.f4)
                    have z5 := z4.far (a := ⟨Q, 4, none⟩) (show P ≠ Q by omega) (.int .i64 s.f4)
                    replace HB := Lib.hid (((((HB.out.setCell (p := ⟨Q, 0, none⟩) hwz13 (.int .i64 s.f0)).setCell (p := ⟨Q, 1, none⟩) hwz13 (.string s.f1)).setCell (p := ⟨Q, 2, none⟩) hwz13 (.int .i64 s.f2)).setCell (p := ⟨Q, 3, none⟩) hwz13 (.int .i64 (max (s.f3 - ye / (5 * s.f4)) 0))).setCell (p := ⟨Q, 4, none⟩) hwz13 (.int .i64 s.f4))
                    have hbk := ((((((Below.refl (b_ + 1) wP9).setCell (p := ⟨Q, 0, none⟩) hbz13 (.int .i64 s.f0)).setCell (p := ⟨Q, 1, none⟩) hbz13 (.string s.f1)).setCell (p := ⟨Q, 2, none⟩) hbz13 (.int .i64 s.f2)).setCell (p := ⟨Q, 3, none⟩) hbz13 (.int .i64 (max (s.f3 - ye / (5 * s.f4)) 0))).setCell (p := ⟨Q, 4, none⟩) hbz13 (.int .i64 s.f4))
                    replace ga0 := cells_of hbk ga0 (Nat.lt_succ_self _)
                    replace ga1 := cells_of hbk ga1 (Nat.lt_succ_self _)
                    replace ga2 := cells_of hbk ga2 (Nat.lt_succ_self _)
                    replace ga3 := cells_of hbk ga3 (Nat.lt_succ_self _)
                    replace ga4 := cells_of hbk ga4 (Nat.lt_succ_self _)
                    replace gs0 := cells_of hbk gs0 (Nat.lt_succ_self _)
                    replace gs1 := cells_of hbk gs1 (Nat.lt_succ_self _)
                    replace gs2 := cells_of hbk gs2 (Nat.lt_succ_self _)
                    replace gs3 := cells_of hbk gs3 (Nat.lt_succ_self _)
                    replace gs4 := cells_of hbk gs4 (Nat.lt_succ_self _)
                    refine wpAnyH_ready (rs := [15]) (by kernel_rfl) (by simp) ?_
                    refine AllReadyH.cons rfl (fun K hK => ?_) AllReadyH.nil
                    go_simp
                    refine hK.out _ _ (by exact ⟨ga0, ga1, ga2, ga3, ga4, gs0, gs1, gs2, gs3, gs4⟩) (fun hHeld => ?_)
                    clear hK K
                    (try simp only [Act.put, List.getElem_toArray, List.getElem_cons_zero, List.getElem_cons_succ, List.setIfInBounds_toArray, List.set_cons_zero, List.set_cons_succ])
                    replace x12 : Blk (((((wP9.setCell ⟨Q, 0, none⟩ (.int .i64 s.f0)).setCell ⟨Q, 1, none⟩ (.string s.f1)).setCell ⟨Q, 2, none⟩ (.int .i64 s.f2)).setCell ⟨Q, 3, none⟩ (.int .i64 (max (s.f3 - ye / (5 * s.f4)) 0))).setCell ⟨Q, 4, none⟩ (.int .i64 s.f4)) Q 30 #[.int .i64 s.f0, .string s.f1, .int .i64 s.f2, .int .i64 (max (s.f3 - ye / (5 * s.f4)) 0), .int .i64 s.f4] := y5
                    replace x11 := z5
                    replace ho := o5
                    clear y0 y1 y2 y3 y4 y5 z0 z1 z2 z3 z4 z5 o0 o1 o2 o3 o4 o5 c0 f0 c1 f1 c2 f2 c3 f3 c4 f4 hbk hzz
                    generalize (((((wP9.setCell ⟨Q, 0, none⟩ (.int .i64 s.f0)).setCell ⟨Q, 1, none⟩ (.string s.f1)).setCell ⟨Q, 2, none⟩ (.int .i64 s.f2)).setCell ⟨Q, 3, none⟩ (.int .i64 (max (s.f3 - ye / (5 * s.f4)) 0))).setCell ⟨Q, 4, none⟩ (.int .i64 s.f4)) = wQ9 at *
                    refine wpAnyH_done (by kernel_rfl) ?_ _
                    refine NoPanic.normal ?_
                    go_wp2_with fail
                    go_meet
                    exact ⟨rfl, P, Q, rfl, rfl, x11, x12, ho, HB.out⟩
            · go_simp
              replace ga0 := (World.cell?_alloc_lt wz (.cells #[.int .i64 0, .string ⟨#[]⟩, .int .i64 0, .int .i64 0, .int .i64 0] 30) ⟨b_, _, none⟩ hbw).trans ga0
              replace ga1 := (World.cell?_alloc_lt wz (.cells #[.int .i64 0, .string ⟨#[]⟩, .int .i64 0, .int .i64 0, .int .i64 0] 30) ⟨b_, _, none⟩ hbw).trans ga1
              replace ga2 := (World.cell?_alloc_lt wz (.cells #[.int .i64 0, .string ⟨#[]⟩, .int .i64 0, .int .i64 0, .int .i64 0] 30) ⟨b_, _, none⟩ hbw).trans ga2
              replace ga3 := (World.cell?_alloc_lt wz (.cells #[.int .i64 0, .string ⟨#[]⟩, .int .i64 0, .int .i64 0, .int .i64 0] 30) ⟨b_, _, none⟩ hbw).trans ga3
              replace ga4 := (World.cell?_alloc_lt wz (.cells #[.int .i64 0, .string ⟨#[]⟩, .int .i64 0, .int .i64 0, .int .i64 0] 30) ⟨b_, _, none⟩ hbw).trans ga4
              replace gs0 := (World.cell?_alloc_lt wz (.cells #[.int .i64 0, .string ⟨#[]⟩, .int .i64 0, .int .i64 0, .int .i64 0] 30) ⟨b_, _, none⟩ hbw).trans gs0
              replace gs1 := (World.cell?_alloc_lt wz (.cells #[.int .i64 0, .string ⟨#[]⟩, .int .i64 0, .int .i64 0, .int .i64 0] 30) ⟨b_, _, none⟩ hbw).trans gs1
              replace gs2 := (World.cell?_alloc_lt wz (.cells #[.int .i64 0, .string ⟨#[]⟩, .int .i64 0, .int .i64 0, .int .i64 0] 30) ⟨b_, _, none⟩ hbw).trans gs2
              replace gs3 := (World.cell?_alloc_lt wz (.cells #[.int .i64 0, .string ⟨#[]⟩, .int .i64 0, .int .i64 0, .int .i64 0] 30) ⟨b_, _, none⟩ hbw).trans gs3
              replace gs4 := (World.cell?_alloc_lt wz (.cells #[.int .i64 0, .string ⟨#[]⟩, .int .i64 0, .int .i64 0, .int .i64 0] 30) ⟨b_, _, none⟩ hbw).trans gs4
              have x12 := Blk.new wz #[.int .i64 0, .string ⟨#[]⟩, .int .i64 0, .int .i64 0, .int .i64 0] 30
              have hbz13 : b_ < wz.heap.size := hbw
              have hwz13 : w.heap.size ≤ wz.heap.size := HB.out.size
              replace ho := ho.all ((Below.refl wz.heap.size wz).alloc (Nat.le_refl _) (.cells #[.int .i64 0, .string ⟨#[]⟩, .int .i64 0, .int .i64 0, .int .i64 0] 30))
              replace HB := Lib.hid (HB.out.alloc HB.out.size (.cells #[.int .i64 0, .string ⟨#[]⟩, .int .i64 0, .int .i64 0, .int .i64 0] 30))
              replace hbw : b_ < (wz.alloc (.cells #[.int .i64 0, .string ⟨#[]⟩, .int .i64 0, .int .i64 0, .int .i64 0] 30)).heap.size := Nat.lt_of_lt_of_le hbw (by simp)
              refine hK.out _ _ (by exact ⟨ga0, ga1, ga2, ga3, ga4, gs0, gs1, gs2, gs3, gs4⟩) (fun hHeld => ?_)
              clear hK K
              (try simp only [Act.put, List.getElem_toArray, List.getElem_cons_zero, List.getElem_cons_succ, List.setIfInBounds_toArray, List.set_cons_zero, List.set_cons_succ])
              refine wpAnyH_ready (rs := [5, 12]) (by kernel_rfl) (by simp) ?_
              refine AllReadyH.cons rfl (fun K hK => ?_) (AllReadyH.cons rfl (fun K hK => ?_) (AllReadyH.nil))
              · go_simp
                (with_reducible refine (l3Faded_any a ye _ ha2 ha4 hy).mono ?_)
                rintro e w11 ⟨rfl, hb5⟩
                replace ga0 := cells_of hb5 ga0 hbw
                replace ga1 := cells_of hb5 ga1 hbw
                replace ga2 := cells_of hb5 ga2 hbw
                replace ga3 := cells_of hb5 ga3 hbw
                replace ga4 := cells_of hb5 ga4 hbw
                replace gs0 := cells_of hb5 gs0 hbw
                replace gs1 := cells_of hb5 gs1 hbw
                replace gs2 := cells_of hb5 gs2 hbw
                replace gs3 := cells_of hb5 gs3 hbw
                replace gs4 := cells_of hb5 gs4 hbw
                replace x12 := x12.all hb5
                replace hbw := Nat.lt_of_lt_of_le hbw hb5.size
                replace ho := ho.all hb5
                replace HB := Lib.hid (HB.out.trans (hb5.mono HB.out.size))
                clear hb5
                refine hK.out _ _ (by exact ⟨ga0, ga1, ga2, ga3, ga4, gs0, gs1, gs2, gs3, gs4⟩) (fun hHeld => ?_)
                clear hK K
                (try simp only [Act.put, List.getElem_toArray, List.getElem_cons_zero, List.getElem_cons_succ, List.setIfInBounds_toArray, List.set_cons_zero, List.set_cons_succ])
                refine wpAnyH_ready (rs := [11, 12]) (by kernel_rfl) (by simp) ?_
                refine AllReadyH.cons rfl (fun K hK => ?_) (AllReadyH.cons rfl (fun K hK => ?_) (AllReadyH.nil))
                · go_simp
                  (with_reducible refine (l3Faded_any s ye _ hs2 hs4 hy).mono ?_)
                  rintro e w12 ⟨rfl, hb5⟩
                  replace ga0 := cells_of hb5 ga0 hbw
                  replace ga1 := cells_of hb5 ga1 hbw
                  replace ga2 := cells_of hb5 ga2 hbw
                  replace ga3 := cells_of hb5 ga3 hbw
                  replace ga4 := cells_of hb5 ga4 hbw
                  replace gs0 := cells_of hb5 gs0 hbw
                  replace gs1 := cells_of hb5 gs1 hbw
                  replace gs2 := cells_of hb5 gs2 hbw
                  replace gs3 := cells_of hb5 gs3 hbw
                  replace gs4 := cells_of hb5 gs4 hbw
                  replace x12 := x12.all hb5
                  replace hbw := Nat.lt_of_lt_of_le hbw hb5.size
                  replace ho := ho.all hb5
                  replace HB := Lib.hid (HB.out.trans (hb5.mono HB.out.size))
                  clear hb5
                  refine hK.out _ _ (by exact ⟨ga0, ga1, ga2, ga3, ga4, gs0, gs1, gs2, gs3, gs4⟩) (fun hHeld => ?_)
                  clear hK K
                  (try simp only [Act.put, List.getElem_toArray, List.getElem_cons_zero, List.getElem_cons_succ, List.setIfInBounds_toArray, List.set_cons_zero, List.set_cons_succ])
                  refine wpAnyH_ready (rs := [12]) (by kernel_rfl) (by simp) ?_
                  refine AllReadyH.cons rfl (fun K hK => ?_) (AllReadyH.nil)
                  · go_simp
                    have hpq : wz.heap.size < w12.heap.size := x12.lt
                    replace ga0 := (World.cell?_alloc_lt w12 (.cells #[.int .i64 0, .string ⟨#[]⟩, .int .i64 0, .int .i64 0, .int .i64 0] 30) ⟨b_, _, none⟩ hbw).trans ga0
                    replace ga1 := (World.cell?_alloc_lt w12 (.cells #[.int .i64 0, .string ⟨#[]⟩, .int .i64 0, .int .i64 0, .int .i64 0] 30) ⟨b_, _, none⟩ hbw).trans ga1
                    replace ga2 := (World.cell?_alloc_lt w12 (.cells #[.int .i64 0, .string ⟨#[]⟩, .int .i64 0, .int .i64 0, .int .i64 0] 30) ⟨b_, _, none⟩ hbw).trans ga2
                    replace ga3 := (World.cell?_alloc_lt w12 (.cells #[.int .i64 0, .string ⟨#[]⟩, .int .i64 0, .int .i64 0, .int .i64 0] 30) ⟨b_, _, none⟩ hbw).trans ga3
                    replace ga4 := (World.cell?_alloc_lt w12 (.cells #[.int .i64 0, .string ⟨#[]⟩, .int .i64 0, .int .i64 0, .int .i64 0] 30) ⟨b_, _, none⟩ hbw).trans ga4
                    replace gs0 := (World.cell?_alloc_lt w12 (.cells #[.int .i64 0, .string ⟨#[]⟩, .int .i64 0, .int .i64 0, .int .i64 0] 30) ⟨b_, _, none⟩ hbw).trans gs0
                    replace gs1 := (World.cell?_alloc_lt w12 (.cells #[.int .i64 0, .string ⟨#[]⟩, .int .i64 0, .int .i64 0, .int .i64 0] 30) ⟨b_, _, none⟩ hbw).trans gs1
                    replace gs2 := (World.cell?_alloc_lt w12 (.cells #[.int .i64 0, .string ⟨#[]⟩, .int .i64 0, .int .i64 0, .int .i64 0] 30) ⟨b_, _, none⟩ hbw).trans gs2
                    replace gs3 := (World.cell?_alloc_lt w12 (.cells #[.int .i64 0, .string ⟨#[]⟩, .int .i64 0, .int .i64 0, .int .i64 0] 30) ⟨b_, _, none⟩ hbw).trans gs3
                    replace gs4 := (World.cell?_alloc_lt w12 (.cells #[.int .i64 0, .string ⟨#[]⟩, .int .i64 0, .int .i64 0, .int .i64 0] 30) ⟨b_, _, none⟩ hbw).trans gs4
                    replace x12 := x12.alloc (.cells #[.int .i64 0, .string ⟨#[]⟩, .int .i64 0, .int .i64 0, .int .i64 0] 30)
                    have x11 := Blk.new w12 #[.int .i64 0, .string ⟨#[]⟩, .int .i64 0, .int .i64 0, .int .i64 0] 30
                    have hbz12 : b_ < w12.heap.size := hbw
                    have hwz12 : w.heap.size ≤ w12.heap.size := HB.out.size
                    replace ho := ho.all ((Below.refl w12.heap.size w12).alloc (Nat.le_refl _) (.cells #[.int .i64 0, .string ⟨#[]⟩, .int .i64 0, .int .i64 0, .int .i64 0] 30))
                    replace HB := Lib.hid (HB.out.alloc HB.out.size (.cells #[.int .i64 0, .string ⟨#[]⟩, .int .i64 0, .int .i64 0, .int .i64 0] 30))
                    replace hbw : b_ < (w12.alloc (.cells #[.int .i64 0, .string ⟨#[]⟩, .int .i64 0, .int .i64 0, .int .i64 0] 30)).heap.size := Nat.lt_of_lt_of_le hbw (by simp)
                    refine hK.out _ _ (by exact ⟨ga0, ga1, ga2, ga3, ga4, gs0, gs1, gs2, gs3, gs4⟩) (fun hHeld => ?_)
                    clear hK K
                    (try simp only [Act.put, List.getElem_toArray, List.getElem_cons_zero, List.getElem_cons_succ, List.setIfInBounds_toArray, List.set_cons_zero, List.set_cons_succ])
                    generalize (w12.alloc (.cells #[.int .i64 0, .string ⟨#[]⟩, .int .i64 0, .int .i64 0, .int .i64 0] 30)) = wl at *
                    have hne0 : w12.heap.size ≠ wz.heap.size := by omega
                    clear hpq
                    obtain ⟨Q, hQ⟩ : ∃ Q, wz.heap.size = Q := ⟨_, rfl⟩
                    rw [hQ] at x12 hbz13 hwz13 hne0 ⊢
                    clear hQ
                    obtain ⟨P, hP⟩ : ∃ P, w12.heap.size = P := ⟨_, rfl⟩
                    rw [hP] at x11 hbz12 hwz12 hne0 ⊢
                    clear hP
                    have hne : P ≠ Q := hne0
                    have hzz := x11.lt
                    have c0 := x11.cell 0
                    have f0 := x11.frozen 0
                    have c1 := x11.cell 1
                    have f1 := x11.frozen 1
                    have c2 := x11.cell 2
                    have f2 := x11.frozen 2
                    have c3 := x11.cell 3
                    have f3 := x11.frozen 3
                    have c4 := x11.cell 4
                    have f4 := x11.frozen 4
                    have y0 := x11
                    have z0 := x12
                    have o0 := ho
                    have o1 := o0.apart (i := 0) y0 (.int .i64 a.f0)
                    have y1 := y0.set_ 0 (.int .i64 a.f0)
                    have z1 := z0.far (a := ⟨P, 0, none⟩) (show Q ≠ P by omega) (.int .i64 a.f0)
                    have o2 := o1.apart (i := 1) y1 (.string a.f1)
                    have y2 := y1.set_ 1 (.string a.f1)
                    have z2 := z1.far (a := ⟨P, 1, none⟩) (show Q ≠ P by omega) (.string a.f1)
                    have o3 := o2.apart (i := 2) y2 (.int .i64 a.f2)
                    have y3 := y2.set_ 2 (.int .i64 a.f2)
                    have z3 := z2.far (a := ⟨P, 2, none⟩) (show Q ≠ P by omega) (.int .i64 a.f2)
                    have o4 := o3.apart (i := 3) y3 (.int .i64 (max (a.f3 - ye / (5 * a.f4)) 0))
                    have y4 := y3.set_ 3 (.int .i64 (max (a.f3 - ye / (5 * a.f4)) 0))
                    have z4 := z3.far (a := ⟨P, 3, none⟩) (show Q ≠ P by omega) (.int .i64 (max (a.f3 - ye / (5 * a.f4)) 0))
                    have o5 := o4.apart (i := 4) y4 (.int .i64 a.f4)
                    have y5 := y4.set_ 4 (.int .i64 a.f4)
                    have z5 := z4.far (a := ⟨P, 4, none⟩) (show Q ≠ P by omega) (.int .i64 a.f4)
                    replace HB := Lib.hid (((((HB.out.setCell (p := ⟨P, 0, none⟩) hwz12 (.int .i64 a.f0)).setCell (p := ⟨P, 1, none⟩) hwz12 (.string a.f1)).setCell (p := ⟨P, 2, none⟩) hwz12 (.int .i64 a.f2)).setCell (p := ⟨P, 3, none⟩) hwz12 (.int .i64 (max (a.f3 - ye / (5 * a.f4)) 0))).setCell (p := ⟨P, 4, none⟩) hwz12 (.int .i64 a.f4))
                    have hbk := ((((((Below.refl (b_ + 1) wl).setCell (p := ⟨P, 0, none⟩) hbz12 (.int .i64 a.f0)).setCell (p := ⟨P, 1, none⟩) hbz12 (.string a.f1)).setCell (p := ⟨P, 2, none⟩) hbz12 (.int .i64 a.f2)).setCell (p := ⟨P, 3, none⟩) hbz12 (.int .i64 (max (a.f3 - ye / (5 * a.f4)) 0))).setCell (p := ⟨P, 4, none⟩) hbz12 (.int .i64 a.f4))
                    replace ga0 := cells_of hbk ga0 (Nat.lt_succ_self _)
                    replace ga1 := cells_of hbk ga1 (Nat.lt_succ_self _)
                    replace ga2 := cells_of hbk ga2 (Nat.lt_succ_self _)
                    replace ga3 := cells_of hbk ga3 (Nat.lt_succ_self _)
                    replace ga4 := cells_of hbk ga4 (Nat.lt_succ_self _)
                    replace gs0 := cells_of hbk gs0 (Nat.lt_succ_self _)
                    replace gs1 := cells_of hbk gs1 (Nat.lt_succ_self _)
                    replace gs2 := cells_of hbk gs2 (Nat.lt_succ_self _)
                    replace gs3 := cells_of hbk gs3 (Nat.lt_succ_self _)
                    replace gs4 := cells_of hbk gs4 (Nat.lt_succ_self _)
                    refine wpAnyH_ready (rs := [14]) (by kernel_rfl) (by simp) ?_
                    refine AllReadyH.cons rfl (fun K hK => ?_) AllReadyH.nil
                    go_simp
                    refine hK.out _ _ (by exact ⟨ga0, ga1, ga2, ga3, ga4, gs0, gs1, gs2, gs3, gs4⟩) (fun hHeld => ?_)
                    clear hK K
                    (try simp only [Act.put, List.getElem_toArray, List.getElem_cons_zero, List.getElem_cons_succ, List.setIfInBounds_toArray, List.set_cons_zero, List.set_cons_succ])
                    replace x11 : Blk (((((wl.setCell ⟨P, 0, none⟩ (.int .i64 a.f0)).setCell ⟨P, 1, none⟩ (.string a.f1)).setCell ⟨P, 2, none⟩ (.int .i64 a.f2)).setCell ⟨P, 3, none⟩ (.int .i64 (max (a.f3 - ye / (5 * a.f4)) 0))).setCell ⟨P, 4, none⟩ (.int .i64 a.f4)) P 30 #[.int .i64 a.f0, .string a.f1, .int .i64 a.f2, .int .i64 (max (a.f3 - ye / (5 * a.f4)) 0), .int .i64 a.f4] := y5
                    replace x12 := z5
                    replace ho := o5
                    clear y0 y1 y2 y3 y4 y5 z0 z1 z2 z3 z4 z5 o0 o1 o2 o3 o4 o5 c0 f0 c1 f1 c2 f2 c3 f3 c4 f4 hbk hzz
                    generalize (((((wl.setCell ⟨P, 0, none⟩ (.int .i64 a.f0)).setCell ⟨P, 1, none⟩ (.string a.f1)).setCell ⟨P, 2, none⟩ (.int .i64 a.f2)).setCell ⟨P, 3, none⟩ (.int .i64 (max (a.f3 - ye / (5 * a.f4)) 0))).setCell ⟨P, 4, none⟩ (.int .i64 a.f4)) = wP9 at *
                    have hzz := x12.lt
                    have c0 := x12.cell 0
                    have f0 := x12.frozen 0
                    have c1 := x12.cell 1
                    have f1 := x12.frozen 1
                    have c2 := x12.cell 2
                    have f2 := x12.frozen 2
                    have c3 := x12.cell 3
                    have f3 := x12.frozen 3
                    have c4 := x12.cell 4
                    have f4 := x12.frozen 4
                    have y0 := x12
                    have z0 := x11
                    have o0 := ho
                    have o1 := o0.apart (i := 0) y0 (.int .i64 s.f0)
                    have y1 := y0.set_ 0 (.int .i64 s.f0)
                    have z1 := z0.far (a := ⟨Q, 0, none⟩) (show P ≠ Q by omega) (.int .i64 s.f0)
                    have o2 := o1.apart (i := 1) y1 (.string s.f1)
                    have y2 := y1.set_ 1 (.string s.f1)
                    have z2 := z1.far (a := ⟨Q, 1, none⟩) (show P ≠ Q by omega) (.string s.f1)
                    have o3 := o2.apart (i := 2) y2 (.int .i64 s.f2)
                    have y3 := y2.set_ 2 (.int .i64 s.f2)
                    have z3 := z2.far (a := ⟨Q, 2, none⟩) (show P ≠ Q by omega) (.int .i64 s.f2)
                    have o4 := o3.apart (i := 3) y3 (.int .i64 (max (s.f3 - ye / (5 * s.f4)) 0))
                    have y4 := y3.set_ 3 (.int .i64 (max (s.f3 - ye / (5 * s.f4)) 0))
                    have z4 := z3.far (a := ⟨Q, 3, none⟩) (show P ≠ Q by omega) (.int .i64 (max (s.f3 - ye / (5 * s.f4)) 0))
                    have o5 := o4.apart (i := 4) y4 (.int .i64 s.f4)
                    have y5 := y4.set_ 4 (.int .i64 s.f4)
                    have z5 := z4.far (a := ⟨Q, 4, none⟩) (show P ≠ Q by omega) (.int .i64 s.f4)
                    replace HB := Lib.hid (((((HB.out.setCell (p := ⟨Q, 0, none⟩) hwz13 (.int .i64 s.f0)).setCell (p := ⟨Q, 1, none⟩) hwz13 (.string s.f1)).setCell (p := ⟨Q, 2, none⟩) hwz13 (.int .i64 s.f2)).setCell (p := ⟨Q, 3, none⟩) hwz13 (.int .i64 (max (s.f3 - ye / (5 * s.f4)) 0))).setCell (p := ⟨Q, 4, none⟩) hwz13 (.int .i64 s.f4))
                    have hbk := ((((((Below.refl (b_ + 1) wP9).setCell (p := ⟨Q, 0, none⟩) hbz13 (.int .i64 s.f0)).setCell (p := ⟨Q, 1, none⟩) hbz13 (.string s.f1)).setCell (p := ⟨Q, 2, none⟩) hbz13 (.int .i64 s.f2)).setCell (p := ⟨Q, 3, none⟩) hbz13 (.int .i64 (max (s.f3 - ye / (5 * s.f4)) 0))).setCell (p := ⟨Q, 4, none⟩) hbz13 (.int .i64 s.f4))
                    replace ga0 := cells_of hbk ga0 (Nat.lt_succ_self _)
                    replace ga1 := cells_of hbk ga1 (Nat.lt_succ_self _)
                    replace ga2 := cells_of hbk ga2 (Nat.lt_succ_self _)
                    replace ga3 := cells_of hbk ga3 (Nat.lt_succ_self _)
                    replace ga4 := cells_of hbk ga4 (Nat.lt_succ_self _)
                    replace gs0 := cells_of hbk gs0 (Nat.lt_succ_self _)
                    replace gs1 := cells_of hbk gs1 (Nat.lt_succ_self _)
                    replace gs2 := cells_of hbk gs2 (Nat.lt_succ_self _)
                    replace gs3 := cells_of hbk gs3 (Nat.lt_succ_self _)
                    replace gs4 := cells_of hbk gs4 (Nat.lt_succ_self _)
                    refine wpAnyH_ready (rs := [15]) (by kernel_rfl) (by simp) ?_
                    refine AllReadyH.cons rfl (fun K hK => ?_) AllReadyH.nil
                    go_simp
                    refine hK.out _ _ (by exact ⟨ga0, ga1, ga2, ga3, ga4, gs0, gs1, gs2, gs3, gs4⟩) (fun hHeld => ?_)
                    clear hK K
                    (try simp only [Act.put, List.getElem_toArray, List.getElem_cons_zero, List.getElem_cons_succ, List.setIfInBounds_toArray, List.set_cons_zero, List.set_cons_succ])
                    replace x12 : Blk (((((wP9.setCell ⟨Q, 0, none⟩ (.int .i64 s.f0)).setCell ⟨Q, 1, none⟩ (.string s.f1)).setCell ⟨Q, 2, none⟩ (.int .i64 s.f2)).setCell ⟨Q, 3, none⟩ (.int .i64 (max (s.f3 - ye / (5 * s.f4)) 0))).setCell ⟨Q, 4, none⟩ (.int .i64 s.f4)) Q 30 #[.int .i64 s.f0, .string s.f1, .int .i64 s.f2, .int .i64 (max (s.f3 - ye / (5 * s.f4)) 0), .int .i64 s.f4] := y5
                    replace x11 := z5
                    replace ho := o5
                    clear y0 y1 y2 y3 y4 y5 z0 z1 z2 z3 z4 z5 o0 o1 o2 o3 o4 o5 c0 f0 c1 f1 c2 f2 c3 f3 c4 f4 hbk hzz
                    generalize (((((wP9.setCell ⟨Q, 0, none⟩ (.int .i64 s.f0)).setCell ⟨Q, 1, none⟩ (.string s.f1)).setCell ⟨Q, 2, none⟩ (.int .i64 s.f2)).setCell ⟨Q, 3, none⟩ (.int .i64 (max (s.f3 - ye / (5 * s.f4)) 0))).setCell ⟨Q, 4, none⟩ (.int .i64 s.f4)) = wQ9 at *
                    refine wpAnyH_done (by kernel_rfl) ?_ _
                    refine NoPanic.normal ?_
                    go_wp2_with fail
                    go_meet
                    exact ⟨rfl, P, Q, rfl, rfl, x11, x12, ho, HB.out⟩
                · go_simp
                  have hpq : wz.heap.size < w11.heap.size := x12.lt
                  replace ga0 := (World.cell?_alloc_lt w11 (.cells #[.int .i64 0, .string ⟨#[]⟩, .int .i64 0, .int .i64 0, .int .i64 0] 30) ⟨b_, _, none⟩ hbw).trans ga0
                  replace ga1 := (World.cell?_alloc_lt w11 (.cells #[.int .i64 0, .string ⟨#[]⟩, .int .i64 0, .int .i64 0, .int .i64 0] 30) ⟨b_, _, none⟩ hbw).trans ga1
                  replace ga2 := (World.cell?_alloc_lt w11 (.cells #[.int .i64 0, .string ⟨#[]⟩, .int .i64 0, .int .i64 0, .int .i64 0] 30) ⟨b_, _, none⟩ hbw).trans ga2
                  replace ga3 := (World.cell?_alloc_lt w11 (.cells #[.int .i64 0, .string ⟨#[]⟩, .int .i64 0, .int .i64 0, .int .i64 0] 30) ⟨b_, _, none⟩ hbw).trans ga3
                  replace ga4 := (World.cell?_alloc_lt w11 (.cells #[.int .i64 0, .string ⟨#[]⟩, .int .i64 0, .int .i64 0, .int .i64 0] 30) ⟨b_, _, none⟩ hbw).trans ga4
                  replace gs0 := (World.cell?_alloc_lt w11 (.cells #[.int .i64 0, .string ⟨#[]⟩, .int .i64 0, .int .i64 0, .int .i64 0] 30) ⟨b_, _, none⟩ hbw).trans gs0
                  replace gs1 := (World.cell?_alloc_lt w11 (.cells #[.int .i64 0, .string ⟨#[]⟩, .int .i64 0, .int .i64 0, .int .i64 0] 30) ⟨b_, _, none⟩ hbw).trans gs1
                  replace gs2 := (World.cell?_alloc_lt w11 (.cells #[.int .i64 0, .string ⟨#[]⟩, .int .i64 0, .int .i64 0, .int .i64 0] 30) ⟨b_, _, none⟩ hbw).trans gs2
                  replace gs3 := (World.cell?_alloc_lt w11 (.cells #[.int .i64 0, .string ⟨#[]⟩, .int .i64 0, .int .i64 0, .int .i64 0] 30) ⟨b_, _, none⟩ hbw).trans gs3
                  replace gs4 := (World.cell?_alloc_lt w11 (.cells #[.int .i64 0, .string ⟨#[]⟩, .int .i64 0, .int .i64 0, .int .i64 0] 30) ⟨b_, _, none⟩ hbw).trans gs4
                  replace x12 := x12.alloc (.cells #[.int .i64 0, .string ⟨#[]⟩, .int .i64 0, .int .i64 0, .int .i64 0] 30)
                  have x11 := Blk.new w11 #[.int .i64 0, .string ⟨#[]⟩, .int .i64 0, .int .i64 0, .int .i64 0] 30
                  have hbz12 : b_ < w11.heap.size := hbw
                  have hwz12 : w.heap.size ≤ w11.heap.size := HB.out.size
                  replace ho := ho.all ((Below.refl w11.heap.size w11).alloc (Nat.le_refl _) (.cells #[.int .i64 0, .string ⟨#[]⟩, .int .i64 0, .int .i64 0, .int .i64 0] 30))
                  replace HB := Lib.hid (HB.out.alloc HB.out.size (.cells #[.int .i64 0, .string ⟨#[]⟩, .int .i64 0, .int .i64 0, .int .i64 0] 30))
                  replace hbw : b_ < (w11.alloc (.cells #[.int .i64 0, .string ⟨#[]⟩, .int .i64 0, .int .i64 0, .int .i64 0] 30)).heap.size := Nat.lt_of_lt_of_le hbw (by simp)
                  refine hK.out _ _ (by exact ⟨ga0, ga1, ga2, ga3, ga4, gs0, gs1, gs2, gs3, gs4⟩) (fun hHeld => ?_)
                  clear hK K
                  (try simp only [Act.put, List.getElem_toArray, List.getElem_cons_zero, List.getElem_cons_succ, List.setIfInBounds_toArray, List.set_cons_zero, List.set_cons_succ])
                  refine wpAnyH_ready (rs := [11]) (by kernel_rfl) (by simp) ?_
                  refine AllReadyH.cons rfl (fun K hK => ?_) (AllReadyH.nil)
                  · go_simp
                    (with_reducible refine (l3Faded_any s ye _ hs2 hs4 hy).mono ?_)
                    rintro e w12 ⟨rfl, hb5⟩
                    replace ga0 := cells_of hb5 ga0 hbw
                    replace ga1 := cells_of hb5 ga1 hbw
                    replace ga2 := cells_of hb5 ga2 hbw
                    replace ga3 := cells_of hb5 ga3 hbw
                    replace ga4 := cells_of hb5 ga4 hbw
                    replace gs0 := cells_of hb5 gs0 hbw
                    replace gs1 := cells_of hb5 gs1 hbw
                    replace gs2 := cells_of hb5 gs2 hbw
                    replace gs3 := cells_of hb5 gs3 hbw
                    replace gs4 := cells_of hb5 gs4 hbw
                    replace x12 := x12.all hb5
                    replace x11 := x11.all hb5
                    replace hbw := Nat.lt_of_lt_of_le hbw hb5.size
                    replace ho := ho.all hb5
                    replace HB := Lib.hid (HB.out.trans (hb5.mono HB.out.size))
                    clear hb5
                    refine hK.out _ _ (by exact ⟨ga0, ga1, ga2, ga3, ga4, gs0, gs1, gs2, gs3, gs4⟩) (fun hHeld => ?_)
                    clear hK K
                    (try simp only [Act.put, List.getElem_toArray, List.getElem_cons_zero, List.getElem_cons_succ, List.setIfInBounds_toArray, List.set_cons_zero, List.set_cons_succ])
                    have hne0 : w11.heap.size ≠ wz.heap.size := by omega
                    clear hpq
                    obtain ⟨Q, hQ⟩ : ∃ Q, wz.heap.size = Q := ⟨_, rfl⟩
                    rw [hQ] at x12 hbz13 hwz13 hne0 ⊢
                    clear hQ
                    obtain ⟨P, hP⟩ : ∃ P, w11.heap.size = P := ⟨_, rfl⟩
                    rw [hP] at x11 hbz12 hwz12 hne0 ⊢
                    clear hP
                    have hne : P ≠ Q := hne0
                    have hzz := x11.lt
                    have c0 := x11.cell 0
                    have f0 := x11.frozen 0
                    have c1 := x11.cell 1
                    have f1 := x11.frozen 1
                    have c2 := x11.cell 2
                    have f2 := x11.frozen 2
                    have c3 := x11.cell 3
                    have f3 := x11.frozen 3
                    have c4 := x11.cell 4
                    have f4 := x11.frozen 4
                    have y0 := x11
                    have z0 := x12
                    have o0 := ho
                    have o1 := o0.apart (i := 0) y0 (.int .i64 a.f0)
                    have y1 := y0.set_ 0 (.int .i64 a.f0)
                    have z1 := z0.far (a := ⟨P, 0, none⟩) (show Q ≠ P by omega) (.int .i64 a.f0)
                    have o2 := o1.apart (i := 1) y1 (.string a.f1)
                    have y2 := y1.set_ 1 (.string a.f1)
                    have z2 := z1.far (a := ⟨P, 1, none⟩) (show Q ≠ P by omega) (.string a.f1)
                    have o3 := o2.apart (i := 2) y2 (.int .i64 a.f2)
                    have y3 := y2.set_ 2 (.int .i64 a.f2)
                    have z3 := z2.far (a := ⟨P, 2, none⟩) (show Q ≠ P by omega) (.int .i64 a.f2)
                    have o4 := o3.apart (i := 3) y3 (.int .i64 (max (a.f3 - ye / (5 * a.f4)) 0))
                    have y4 := y3.set_ 3 (.int .i64 (max (a.f3 - ye / (5 * a.f4)) 0))
                    have z4 := z3.far (a := ⟨P, 3, none⟩) (show Q ≠ P by omega) (.int .i64 (max (a.f3 - ye / (5 * a.f4)) 0))
                    have o5 := o4.apart (i := 4) y4 (.int .i64 a.f4)
                    have y5 := y4.set_ 4 (.int .i64 a.f4)
                    have z5 := z4.far (a := ⟨P, 4, none⟩) (show Q ≠ P by omega) (.int .i64 a.f4)
                    replace HB := Lib.hid (((((HB.out.setCell (p := ⟨P, 0, none⟩) hwz12 (.int .i64 a.f0)).setCell (p := ⟨P, 1, none⟩) hwz12 (.string a.f1)).setCell (p := ⟨P, 2, none⟩) hwz12 (.int .i64 a.f2)).setCell (p := ⟨P, 3, none⟩) hwz12 (.int .i64 (max (a.f3 - ye / (5 * a.f4)) 0))).setCell (p := ⟨P, 4, none⟩) hwz12 (.int .i64 a.f4))
                    have hbk := ((((((Below.refl (b_ + 1) w12).setCell (p := ⟨P, 0, none⟩) hbz12 (.int .i64 a.f0)).setCell (p := ⟨P, 1, none⟩) hbz12 (.string a.f1)).setCell (p := ⟨P, 2, none⟩) hbz12 (.int .i64 a.f2)).setCell (p := ⟨P, 3, none⟩) hbz12 (.int .i64 (max (a.f3 - ye / (5 * a.f4)) 0))).setCell (p := ⟨P, 4, none⟩) hbz12 (.int .i64 a.f4))
                    replace ga0 := cells_of hbk ga0 (Nat.lt_succ_self _)
                    replace ga1 := cells_of hbk ga1 (Nat.lt_succ_self _)
                    replace ga2 := cells_of hbk ga2 (Nat.lt_succ_self _)
                    replace ga3 := cells_of hbk ga3 (Nat.lt_succ_self _)
                    replace ga4 := cells_of hbk ga4 (Nat.lt_succ_self _)
                    replace gs0 := cells_of hbk gs0 (Nat.lt_succ_self _)
                    replace gs1 := cells_of hbk gs1 (Nat.lt_succ_self _)
                    replace gs2 := cells_of hbk gs2 (Nat.lt_succ_self _)
                    replace gs3 := cells_of hbk gs3 (Nat.lt_succ_self _)
                    replace gs4 := cells_of hbk gs4 (Nat.lt_succ_self _)
                    refine wpAnyH_ready (rs := [14]) (by kernel_rfl) (by simp) ?_
                    refine AllReadyH.cons rfl (fun K hK => ?_) AllReadyH.nil
                    go_simp
                    refine hK.out _ _ (by exact ⟨ga0, ga1, ga2, ga3, ga4, gs0, gs1, gs2, gs3, gs4⟩) (fun hHeld => ?_)
                    clear hK K
                    (try simp only [Act.put, List.getElem_toArray, List.getElem_cons_zero, List.getElem_cons_succ, List.setIfInBounds_toArray, List.set_cons_zero, List.set_cons_succ])
                    replace x11 : Blk (((((w12.setCell ⟨P, 0, none⟩ (.int .i64 a.f0)).setCell ⟨P, 1, none⟩ (.string a.f1)).setCell ⟨P, 2, none⟩ (.int .i64 a.f2)).setCell ⟨P, 3, none⟩ (.int .i64 (max (a.f3 - ye / (5 * a.f4)) 0))).setCell ⟨P, 4, none⟩ (.int .i64 a.f4)) P 30 #[.int .i64 a.f0, .string a.f1, .int .i64 a.f2, .int .i64 (max (a.f3 - ye / (5 * a.f4)) 0), .int .i64 a.f4] := y5
                    replace x12 := z5
                    replace ho := o5
                    clear y0 y1 y2 y3 y4 y5 z0 z1 z2 z3 z4 z5 o0 o1 o2 o3 o4 o5 c0 f0 c1 f1 c2 f2 c3 f3 c4 f4 hbk hzz
                    generalize (((((w12.setCell ⟨P, 0, none⟩ (.int .i64 a.f0)).setCell ⟨P, 1, none⟩ (.string a.f1)).setCell ⟨P, 2, none⟩ (.int .i64 a.f2)).setCell ⟨P, 3, none⟩ (.int .i64 (max (a.f3 - ye / (5 * a.f4)) 0))).setCell ⟨P, 4, none⟩ (.int .i64 a.f4)) = wP9 at *
                    have hzz := x12.lt
                    have c0 := x12.cell 0
                    have f0 := x12.frozen 0
                    have c1 := x12.cell 1
                    have f1 := x12.frozen 1
                    have c2 := x12.cell 2
                    have f2 := x12.frozen 2
                    have c3 := x12.cell 3
                    have f3 := x12.frozen 3
                    have c4 := x12.cell 4
                    have f4 := x12.frozen 4
                    have y0 := x12
                    have z0 := x11
                    have o0 := ho
                    have o1 := o0.apart (i := 0) y0 (.int .i64 s.f0)
                    have y1 := y0.set_ 0 (.int .i64 s.f0)
                    have z1 := z0.far (a := ⟨Q, 0, none⟩) (show P ≠ Q by omega) (.int .i64 s.f0)
                    have o2 := o1.apart (i := 1) y1 (.string s.f1)
                    have y2 := y1.set_ 1 (.string s.f1)
                    have z2 := z1.far (a := ⟨Q, 1, none⟩) (show P ≠ Q by omega) (.string s.f1)
                    have o3 := o2.apart (i := 2) y2 (.int .i64 s.f2)
                    have y3 := y2.set_ 2 (.int .i64 s.f2)
                    have z3 := z2.far (a := ⟨Q, 2, none⟩) (show P ≠ Q by omega) (.int .i64 s.f2)
                    have o4 := o3.apart (i := 3) y3 (.int .i64 (max (s.f3 - ye / (5 * s.f4)) 0))
                    have y4 := y3.set_ 3 (.int .i64 (max (s.f3 - ye / (5 * s.f4)) 0))
                    have z4 := z3.far (a := ⟨Q, 3, none⟩) (show P ≠ Q by omega) (.int .i64 (max (s.f3 - ye / (5 * s.f4)) 0))
                    have o5 := o4.apart (i := 4) y4 (.int .i64 s.f4)
                    have y5 := y4.set_ 4 (.int .i64 s.f4)
                    have z5 := z4.far (a := ⟨Q, 4, none⟩) (show P ≠ Q by omega) (.int .i64 s.f4)
                    replace HB := Lib.hid (((((HB.out.setCell (p := ⟨Q, 0, none⟩) hwz13 (.int .i64 s.f0)).setCell (p := ⟨Q, 1, none⟩) hwz13 (.string s.f1)).setCell (p := ⟨Q, 2, none⟩) hwz13 (.int .i64 s.f2)).setCell (p := ⟨Q, 3, none⟩) hwz13 (.int .i64 (max (s.f3 - ye / (5 * s.f4)) 0))).setCell (p := ⟨Q, 4, none⟩) hwz13 (.int .i64 s.f4))
                    have hbk := ((((((Below.refl (b_ + 1) wP9).setCell (p := ⟨Q, 0, none⟩) hbz13 (.int .i64 s.f0)).setCell (p := ⟨Q, 1, none⟩) hbz13 (.string s.f1)).setCell (p := ⟨Q, 2, none⟩) hbz13 (.int .i64 s.f2)).setCell (p := ⟨Q, 3, none⟩) hbz13 (.int .i64 (max (s.f3 - ye / (5 * s.f4)) 0))).setCell (p := ⟨Q, 4, none⟩) hbz13 (.int .i64 s.f4))
                    replace ga0 := cells_of hbk ga0 (Nat.lt_succ_self _)
                    replace ga1 := cells_of hbk ga1 (Nat.lt_succ_self _)
                    replace ga2 := cells_of hbk ga2 (Nat.lt_succ_self _)
                    replace ga3 := cells_of hbk ga3 (Nat.lt_succ_self _)
                    replace ga4 := cells_of hbk ga4 (Nat.lt_succ_self _)
                    replace gs0 := cells_of hbk gs0 (Nat.lt_succ_self _)
                    replace gs1 := cells_of hbk gs1 (Nat.lt_succ_self _)
                    replace gs2 := cells_of hbk gs2 (Nat.lt_succ_self _)
                    replace gs3 := cells_of hbk gs3 (Nat.lt_succ_self _)
                    replace gs4 := cells_of hbk gs4 (Nat.lt_succ_self _)
                    refine wpAnyH_ready (rs := [15]) (by kernel_rfl) (by simp) ?_
                    refine AllReadyH.cons rfl (fun K hK => ?_) AllReadyH.nil
                    go_simp
                    refine hK.out _ _ (by exact ⟨ga0, ga1, ga2, ga3, ga4, gs0, gs1, gs2, gs3, gs4⟩) (fun hHeld => ?_)
                    clear hK K
                    (try simp only [Act.put, List.getElem_toArray, List.getElem_cons_zero, List.getElem_cons_succ, List.setIfInBounds_toArray, List.set_cons_zero, List.set_cons_succ])
                    replace x12 : Blk (((((wP9.setCell ⟨Q, 0, none⟩ (.int .i64 s.f0)).setCell ⟨Q, 1, none⟩ (.string s.f1)).setCell ⟨Q, 2, none⟩ (.int .i64 s.f2)).setCell ⟨Q, 3, none⟩ (.int .i64 (max (s.f3 - ye / (5 * s.f4)) 0))).setCell ⟨Q, 4, none⟩ (.int .i64 s.f4)) Q 30 #[.int .i64 s.f0, .string s.f1, .int .i64 s.f2, .int .i64 (max (s.f3 - ye / (5 * s.f4)) 0), .int .i64 s.f4] := y5
                    replace x11 := z5
                    replace ho := o5
                    clear y0 y1 y2 y3 y4 y5 z0 z1 z2 z3 z4 z5 o0 o1 o2 o3 o4 o5 c0 f0 c1 f1 c2 f2 c3 f3 c4 f4 hbk hzz
                    generalize (((((wP9.setCell ⟨Q, 0, none⟩ (.int .i64 s.f0)).setCell ⟨Q, 1, none⟩ (.string s.f1)).setCell ⟨Q, 2, none⟩ (.int .i64 s.f2)).setCell ⟨Q, 3, none⟩ (.int .i64 (max (s.f3 - ye / (5 * s.f4)) 0))).setCell ⟨Q, 4, none⟩ (.int .i64 s.f4)) = wQ9 at *
                    refine wpAnyH_done (by kernel_rfl) ?_ _
                    refine NoPanic.normal ?_
                    go_wp2_with fail
                    go_meet
                    exact ⟨rfl, P, Q, rfl, rfl, x11, x12, ho, HB.out⟩
              · go_simp
                have hpq : wz.heap.size < (wz.alloc (.cells #[.int .i64 0, .string ⟨#[]⟩, .int .i64 0, .int .i64 0, .int .i64 0] 30)).heap.size := x12.lt
                replace ga0 := (World.cell?_alloc_lt (wz.alloc (.cells #[.int .i64 0, .string ⟨#[]⟩, .int .i64 0, .int .i64 0, .int .i64 0] 30)) (.cells #[.int .i64 0, .string ⟨#[]⟩, .int .i64 0, .int .i64 0, .int .i64 0] 30) ⟨b_, _, none⟩ hbw).trans ga0
                replace ga1 := (World.cell?_alloc_lt (wz.alloc (.cells #[.int .i64 0, .string ⟨#[]⟩, .int .i64 0, .int .i64 0, .int .i64 0] 30)) (.cells #[.int .i64 0, .string ⟨#[]⟩, .int .i64 0, .int .i64 0, .int .i64 0] 30) ⟨b_, _, none⟩ hbw).trans ga1
                replace ga2 := (World.cell?_alloc_lt (wz.alloc (.cells #[.int .i64 0, .string ⟨#[]⟩, .int .i64 0, .int .i64 0, .int .i64 0] 30)) (.cells #[.int .i64 0, .string ⟨#[]⟩, .int .i64 0, .int .i64 0, .int .i64 0] 30) ⟨b_, _, none⟩ hbw).trans ga2
                replace ga3 := (World.cell?_alloc_lt (wz.alloc (.cells #[.int .i64 0, .string ⟨#[]⟩, .int .i64 0, .int .i64 0, .int .i64 0] 30)) (.cells #[.int .i64 0, .string ⟨#[]⟩, .int .i64 0, .int .i64 0, .int .i64 0] 30) ⟨b_, _, none⟩ hbw).trans ga3
                replace ga4 := (World.cell?_alloc_lt (wz.alloc (.cells #[.int .i64 0, .string ⟨#[]⟩, .int .i64 0, .int .i64 0, .int .i64 0] 30)) (.cells #[.int .i64 0, .string ⟨#[]⟩, .int .i64 0, .int .i64 0, .int .i64 0] 30) ⟨b_, _, none⟩ hbw).trans ga4
                replace gs0 := (World.cell?_alloc_lt (wz.alloc (.cells #[.int .i64 0, .string ⟨#[]⟩, .int .i64 0, .int .i64 0, .int .i64 0] 30)) (.cells #[.int .i64 0, .string ⟨#[]⟩, .int .i64 0, .int .i64 0, .int .i64 0] 30) ⟨b_, _, none⟩ hbw).trans gs0
                replace gs1 := (World.cell?_alloc_lt (wz.alloc (.cells #[.int .i64 0, .string ⟨#[]⟩, .int .i64 0, .int .i64 0, .int .i64 0] 30)) (.cells #[.int .i64 0, .string ⟨#[]⟩, .int .i64 0, .int .i64 0, .int .i64 0] 30) ⟨b_, _, none⟩ hbw).trans gs1
                replace gs2 := (World.cell?_alloc_lt (wz.alloc (.cells #[.int .i64 0, .string ⟨#[]⟩, .int .i64 0, .int .i64 0, .int .i64 0] 30)) (.cells #[.int .i64 0, .string ⟨#[]⟩, .int .i64 0, .int .i64 0, .int .i64 0] 30) ⟨b_, _, none⟩ hbw).trans gs2
                replace gs3 := (World.cell?_alloc_lt (wz.alloc (.cells #[.int .i64 0, .string ⟨#[]⟩, .int .i64 0, .int .i64 0, .int .i64 0] 30)) (.cells #[.int .i64 0, .string ⟨#[]⟩, .int .i64 0, .int .i64 0, .int .i64 0] 30) ⟨b_, _, none⟩ hbw).trans gs3
                replace gs4 := (World.cell?_alloc_lt (wz.alloc (.cells #[.int .i64 0, .string ⟨#[]⟩, .int .i64 0, .int .i64 0, .int .i64 0] 30)) (.cells #[.int .i64 0, .string ⟨#[]⟩, .int .i64 0, .int .i64 0, .int .i64 0] 30) ⟨b_, _, none⟩ hbw).trans gs4
                replace x12 := x12.alloc (.cells #[.int .i64 0, .string ⟨#[]⟩, .int .i64 0, .int .i64 0, .int .i64 0] 30)
                have x11 := Blk.new (wz.alloc (.cells #[.int .i64 0, .string ⟨#[]⟩, .int .i64 0, .int .i64 0, .int .i64 0] 30)) #[.int .i64 0, .string ⟨#[]⟩, .int .i64 0, .int .i64 0, .int .i64 0] 30
                have hbz12 : b_ < (wz.alloc (.cells #[.int .i64 0, .string ⟨#[]⟩, .int .i64 0, .int .i64 0, .int .i64 0] 30)).heap.size := hbw
                have hwz12 : w.heap.size ≤ (wz.alloc (.cells #[.int .i64 0, .string ⟨#[]⟩, .int .i64 0, .int .i64 0, .int .i64 0] 30)).heap.size := HB.out.size
                rw [show (wz.alloc (.cells #[.int .i64 0, .string ⟨#[]⟩, .int .i64 0, .int .i64 0, .int .i64 0] 30)).heap.size = wz.heap.size + 1 by simp] at x11 hbz12 hwz12 hpq
                replace ho := ho.all ((Below.refl (wz.alloc (.cells #[.int .i64 0, .string ⟨#[]⟩, .int .i64 0, .int .i64 0, .int .i64 0] 30)).heap.size (wz.alloc (.cells #[.int .i64 0, .string ⟨#[]⟩, .int .i64 0, .int .i64 0, .int .i64 0] 30))).alloc (Nat.le_refl _) (.cells #[.int .i64 0, .string ⟨#[]⟩, .int .i64 0, .int .i64 0, .int .i64 0] 30))
                replace HB := Lib.hid (HB.out.alloc HB.out.size (.cells #[.int .i64 0, .string ⟨#[]⟩, .int .i64 0, .int .i64 0, .int .i64 0] 30))
                replace hbw : b_ < ((wz.alloc (.cells #[.int .i64 0, .string ⟨#[]⟩, .int .i64 0, .int .i64 0, .int .i64 0] 30)).alloc (.cells #[.int .i64 0, .string ⟨#[]⟩, .int .i64 0, .int .i64 0, .int .i64 0] 30)).heap.size := Nat.lt_of_lt_of_le hbw (by simp)
                refine hK.out _ _ (by exact ⟨ga0, ga1, ga2, ga3, ga4, gs0, gs1, gs2, gs3, gs4⟩) (fun hHeld => ?_)
                clear hK K
                (try simp only [Act.put, List.getElem_toArray, List.getElem_cons_zero, List.getElem_cons_succ, List.setIfInBounds_toArray, List.set_cons_zero, List.set_cons_succ])
                refine wpAnyH_ready (rs := [5]) (by kernel_rfl) (by simp) ?_
                refine AllReadyH.cons rfl (fun K hK => ?_) (AllReadyH.nil)
                · go_simp
                  (with_reducible refine (l3Faded_any a ye _ ha2 ha4 hy).mono ?_)
                  rintro e w11 ⟨rfl, hb5⟩
                  replace ga0 := cells_of hb5 ga0 hbw
                  replace ga1 := cells_of hb5 ga1 hbw
                  replace ga2 := cells_of hb5 ga2 hbw
                  replace ga3 := cells_of hb5 ga3 hbw
                  replace ga4 := cells_of hb5 ga4 hbw
                  replace gs0 := cells_of hb5 gs0 hbw
                  replace gs1 := cells_of hb5 gs1 hbw
                  replace gs2 := cells_of hb5 gs2 hbw
                  replace gs3 := cells_of hb5 gs3 hbw
                  replace gs4 := cells_of hb5 gs4 hbw
                  replace x12 := x12.all hb5
                  replace x11 := x11.all hb5
                  replace hbw := Nat.lt_of_lt_of_le hbw hb5.size
                  replace ho := ho.all hb5
                  replace HB := Lib.hid (HB.out.trans (hb5.mono HB.out.size))
                  clear hb5
                  refine hK.out _ _ (by exact ⟨ga0, ga1, ga2, ga3, ga4, gs0, gs1, gs2, gs3, gs4⟩) (fun hHeld => ?_)
                  clear hK K
                  (try simp only [Act.put, List.getElem_toArray, List.getElem_cons_zero, List.getElem_cons_succ, List.setIfInBounds_toArray, List.set_cons_zero, List.set_cons_succ])
                  refine wpAnyH_ready (rs := [11]) (by kernel_rfl) (by simp) ?_
                  refine AllReadyH.cons rfl (fun K hK => ?_) (AllReadyH.nil)
                  · go_simp
                    (with_reducible refine (l3Faded_any s ye _ hs2 hs4 hy).mono ?_)
                    rintro e w12 ⟨rfl, hb5⟩
                    replace ga0 := cells_of hb5 ga0 hbw
                    replace ga1 := cells_of hb5 ga1 hbw
                    replace ga2 := cells_of hb5 ga2 hbw
                    replace ga3 := cells_of hb5 ga3 hbw
                    replace ga4 := cells_of hb5 ga4 hbw
                    replace gs0 := cells_of hb5 gs0 hbw
                    replace gs1 := cells_of hb5 gs1 hbw
                    replace gs2 := cells_of hb5 gs2 hbw
                    replace gs3 := cells_of hb5 gs3 hbw
                    replace gs4 := cells_of hb5 gs4 hbw
                    replace x12 := x12.all hb5
                    replace x11 := x11.all hb5
                    replace hbw := Nat.lt_of_lt_of_le hbw hb5.size
                    replace ho := ho.all hb5
                    replace HB := Lib.hid (HB.out.trans (hb5.mono HB.out.size))
                    clear hb5
                    refine hK.out _ _ (by exact ⟨ga0, ga1, ga2, ga3, ga4, gs0, gs1, gs2, gs3, gs4⟩) (fun hHeld => ?_)
                    clear hK K
                    (try simp only [Act.put, List.getElem_toArray, List.getElem_cons_zero, List.getElem_cons_succ, List.setIfInBounds_toArray, List.set_cons_zero, List.set_cons_succ])
                    have hne0 : wz.heap.size + 1 ≠ wz.heap.size := by omega
                    clear hpq
                    obtain ⟨P, hP⟩ : ∃ P, wz.heap.size + 1 = P := ⟨_, rfl⟩
                    rw [hP] at x11 hbz12 hwz12 hne0 ⊢
                    clear hP
                    obtain ⟨Q, hQ⟩ : ∃ Q, wz.heap.size = Q := ⟨_, rfl⟩
                    rw [hQ] at x12 hbz13 hwz13 hne0 ⊢
                    clear hQ
                    have hne : P ≠ Q := hne0
                    have hzz := x11.lt
                    have c0 := x11.cell 0
                    have f0 := x11.frozen 0
                    have c1 := x11.cell 1
                    have f1 := x11.frozen 1
                    have c2 := x11.cell 2
                    have f2 := x11.frozen 2
                    have c3 := x11.cell 3
                    have f3 := x11.frozen 3
                    have c4 := x11.cell 4
                    have f4 := x11.frozen 4
                    have y0 := x11
                    have z0 := x12
                    have o0 := ho
                    have o1 := o0.apart (i := 0) y0 (.int .i64 a.f0)
                    have y1 := y0.set_ 0 (.int .i64 a.f0)
                    have z1 := z0.far (a := ⟨P, 0, none⟩) (show Q ≠ P by omega) (.int .i64 a.f0)
                    have o2 := o1.apart (i := 1) y1 (.string a.f1)
                    have y2 := y1.set_ 1 (.string a.f1)
                    have z2 := z1.far (a := ⟨P, 1, none⟩) (show Q ≠ P by omega) (.string a.f1)
                    have o3 := o2.apart (i := 2) y2 (.int .i64 a.f2)
                    have y3 := y2.set_ 2 (.int .i64 a.f2)
                    have z3 := z2.far (a := ⟨P, 2, none⟩) (show Q ≠ P by omega) (.int .i64 a.f2)
                    have o4 := o3.apart (i := 3) y3 (.int .i64 (max (a.f3 - ye / (5 * a.f4)) 0))
                    have y4 := y3.set_ 3 (.int .i64 (max (a.f3 - ye / (5 * a.f4)) 0))
                    have z4 := z3.far (a := ⟨P, 3, none⟩) (show Q ≠ P by omega) (.int .i64 (max (a.f3 - ye / (5 * a.f4)) 0))
                    have o5 := o4.apart (i := 4) y4 (.int .i64 a.f4)
                    have y5 := y4.set_ 4 (.int .i64 a.f4)
                    have z5 := z4.far (a := ⟨P, 4, none⟩) (show Q ≠ P by omega) (.int .i64 a.f4)
                    replace HB := Lib.hid (((((HB.out.setCell (p := ⟨P, 0, none⟩) hwz12 (.int .i64 a.f0)).setCell (p := ⟨P, 1, none⟩) hwz12 (.string a.f1)).setCell (p := ⟨P, 2, none⟩) hwz12 (.int .i64 a.f2)).setCell (p := ⟨P, 3, none⟩) hwz12 (.int .i64 (max (a.f3 - ye / (5 * a.f4)) 0))).setCell (p := ⟨P, 4, none⟩) hwz12 (.int .i64 a.f4))
                    have hbk := ((((((Below.refl (b_ + 1) w12).setCell (p := ⟨P, 0, none⟩) hbz12 (.int .i64 a.f0)).setCell (p := ⟨P, 1, none⟩) hbz12 (.string a.f1)).setCell (p := ⟨P, 2, none⟩) hbz12 (.int .i64 a.f2)).setCell (p := ⟨P, 3, none⟩) hbz12 (.int .i64 (max (a.f3 - ye / (5 * a.f4)) 0))).setCell (p := ⟨P, 4, none⟩) hbz12 (.int .i64 a.f4))
                    replace ga0 := cells_of hbk ga0 (Nat.lt_succ_self _)
                    replace ga1 := cells_of hbk ga1 (Nat.lt_succ_self _)
                    replace ga2 := cells_of hbk ga2 (Nat.lt_succ_self _)
                    replace ga3 := cells_of hbk ga3 (Nat.lt_succ_self _)
                    replace ga4 := cells_of hbk ga4 (Nat.lt_succ_self _)
                    replace gs0 := cells_of hbk gs0 (Nat.lt_succ_self _)
                    replace gs1 := cells_of hbk gs1 (Nat.lt_succ_self _)
                    replace gs2 := cells_of hbk gs2 (Nat.lt_succ_self _)
                    replace gs3 := cells_of hbk gs3 (Nat.lt_succ_self _)
                    replace gs4 := cells_of hbk gs4 (Nat.lt_succ_self _)
                    refine wpAnyH_ready (rs := [14]) (by kernel_rfl) (by simp) ?_
                    refine AllReadyH.cons rfl (fun K hK => ?_) AllReadyH.nil
                    go_simp
                    refine hK.out _ _ (by exact ⟨ga0, ga1, ga2, ga3, ga4, gs0, gs1, gs2, gs3, gs4⟩) (fun hHeld => ?_)
                    clear hK K
                    (try simp only [Act.put, List.getElem_toArray, List.getElem_cons_zero, List.getElem_cons_succ, List.setIfInBounds_toArray, List.set_cons_zero, List.set_cons_succ])
                    replace x11 : Blk (((((w12.setCell ⟨P, 0, none⟩ (.int .i64 a.f0)).setCell ⟨P, 1, none⟩ (.string a.f1)).setCell ⟨P, 2, none⟩ (.int .i64 a.f2)).setCell ⟨P, 3, none⟩ (.int .i64 (max (a.f3 - ye / (5 * a.f4)) 0))).setCell ⟨P, 4, none⟩ (.int .i64 a.f4)) P 30 #[.int .i64 a.f0, .string a.f1, .int .i64 a.f2, .int .i64 (max (a.f3 - ye / (5 * a.f4)) 0), .int .i64 a.f4] := y5
                    replace x12 := z5
                    replace ho := o5
                    clear y0 y1 y2 y3 y4 y5 z0 z1 z2 z3 z4 z5 o0 o1 o2 o3 o4 o5 c0 f0 c1 f1 c2 f2 c3 f3 c4 f4 hbk hzz
                    generalize (((((w12.setCell ⟨P, 0, none⟩ (.int .i64 a.f0)).setCell ⟨P, 1, none⟩ (.string a.f1)).setCell ⟨P, 2, none⟩ (.int .i64 a.f2)).setCell ⟨P, 3, none⟩ (.int .i64 (max (a.f3 - ye / (5 * a.f4)) 0))).setCell ⟨P, 4, none⟩ (.int .i64 a.f4)) = wP9 at *
                    have hzz := x12.lt
                    have c0 := x12.cell 0
                    have f0 := x12.frozen 0
                    have c1 := x12.cell 1
                    have f1 := x12.frozen 1
                    have c2 := x12.cell 2
                    have f2 := x12.frozen 2
                    have c3 := x12.cell 3
                    have f3 := x12.frozen 3
                    have c4 := x12.cell 4
                    have f4 := x12.frozen 4
                    have y0 := x12
                    have z0 := x11
                    have o0 := ho
                    have o1 := o0.apart (i := 0) y0 (.int .i64 s.f0)
                    have y1 := y0.set_ 0 (.int .i64 s.f0)
                    have z1 := z0.far (a := ⟨Q, 0, none⟩) (show P ≠ Q by omega) (.int .i64 s.f0)
                    have o2 := o1.apart (i := 1) y1 (.string s.f1)
                    have y2 := y1.set_ 1 (.string s.f1)
                    have z2 := z1.far (a := ⟨Q, 1, none⟩) (show P ≠ Q by omega) (.string s.f1)
                    have o3 := o2.apart (i := 2) y2 (.int .i64 s.f2)
                    have y3 := y2.set_ 2 (.int .i64 s.f2)
                    have z3 := z2.far (a := ⟨Q, 2, none⟩) (show P ≠ Q by omega) (.int .i64 s.f2)
                    have o4 := o3.apart (i := 3) y3 (.int .i64 (max (s.f3 - ye / (5 * s.f4)) 0))
                    have y4 := y3.set_ 3 (.int .i64 (max (s.f3 - ye / (5 * s.f4)) 0))
                    have z4 := z3.far (a := ⟨Q, 3, none⟩) (show P ≠ Q by omega) (.int .i64 (max (s.f3 - ye / (5 * s.f4)) 0))
                    have o5 := o4.apart (i := 4) y4 (.int .i64 s.f4)
                    have y5 := y4.set_ 4 (.int .i64 s.f4)
                    have z5 := z4.far (a := ⟨Q, 4, none⟩) (show P ≠ Q by omega) (.int .i64 s.f4)
                    replace HB := Lib.hid (((((HB.out.setCell (p := ⟨Q, 0, none⟩) hwz13 (.int .i64 s.f0)).setCell (p := ⟨Q, 1, none⟩) hwz13 (.string s.f1)).setCell (p := ⟨Q, 2, none⟩) hwz13 (.int .i64 s.f2)).setCell (p := ⟨Q, 3, none⟩) hwz13 (.int .i64 (max (s.f3 - ye / (5 * s.f4)) 0))).setCell (p := ⟨Q, 4, none⟩) hwz13 (.int .i64 s.f4))
                    have hbk := ((((((Below.refl (b_ + 1) wP9).setCell (p := ⟨Q, 0, none⟩) hbz13 (.int .i64 s.f0)).setCell (p := ⟨Q, 1, none⟩) hbz13 (.string s.f1)).setCell (p := ⟨Q, 2, none⟩) hbz13 (.int .i64 s.f2)).setCell (p := ⟨Q, 3, none⟩) hbz13 (.int .i64 (max (s.f3 - ye / (5 * s.f4)) 0))).setCell (p := ⟨Q, 4, none⟩) hbz13 (.int .i64 s.f4))
                    replace ga0 := cells_of hbk ga0 (Nat.lt_succ_self _)
                    replace ga1 := cells_of hbk ga1 (Nat.lt_succ_self _)
                    replace ga2 := cells_of hbk ga2 (Nat.lt_succ_self _)
                    replace ga3 := cells_of hbk ga3 (Nat.lt_succ_self _)
                    replace ga4 := cells_of hbk ga4 (Nat.lt_succ_self _)
                    replace gs0 := cells_of hbk gs0 (Nat.lt_succ_self _)
                    replace gs1 := cells_of hbk gs1 (Nat.lt_succ_self _)
                    replace gs2 := cells_of hbk gs2 (Nat.lt_succ_self _)
                    replace gs3 := cells_of hbk gs3 (Nat.lt_succ_self _)
                    replace gs4 := cells_of hbk gs4 (Nat.lt_succ_self _)
                    refine wpAnyH_ready (rs := [15]) (by kernel_rfl) (by simp) ?_
                    refine AllReadyH.cons rfl (fun K hK => ?_) AllReadyH.nil
                    go_simp
                    refine hK.out _ _ (by exact ⟨ga0, ga1, ga2, ga3, ga4, gs0, gs1, gs2, gs3, gs4⟩) (fun hHeld => ?_)
                    clear hK K
                    (try simp only [Act.put, List.getElem_toArray, List.getElem_cons_zero, List.getElem_cons_succ, List.setIfInBounds_toArray, List.set_cons_zero, List.set_cons_succ])
                    replace x12 : Blk (((((wP9.setCell ⟨Q, 0, none⟩ (.int .i64 s.f0)).setCell ⟨Q, 1, none⟩ (.string s.f1)).setCell ⟨Q, 2, none⟩ (.int .i64 s.f2)).setCell ⟨Q, 3, none⟩ (.int .i64 (max (s.f3 - ye / (5 * s.f4)) 0))).setCell ⟨Q, 4, none⟩ (.int .i64 s.f4)) Q 30 #[.int .i64 s.f0, .string s.f1, .int .i64 s.f2, .int .i64 (max (s.f3 - ye / (5 * s.f4)) 0), .int .i64 s.f4] := y5
                    replace x11 := z5
                    replace ho := o5
                    clear y0 y1 y2 y3 y4 y5 z0 z1 z2 z3 z4 z5 o0 o1 o2 o3 o4 o5 c0 f0 c1 f1 c2 f2 c3 f3 c4 f4 hbk hzz
                    generalize (((((wP9.setCell ⟨Q, 0, none⟩ (.int .i64 s.f0)).setCell ⟨Q, 1, none⟩ (.string s.f1)).setCell ⟨Q, 2, none⟩ (.int .i64 s.f2)).setCell ⟨Q, 3, none⟩ (.int .i64 (max (s.f3 - ye / (5 * s.f4)) 0))).setCell ⟨Q, 4, none⟩ (.int .i64 s.f4)) = wQ9 at *
                    refine wpAnyH_done (by kernel_rfl) ?_ _
                    refine NoPanic.normal ?_
                    go_wp2_with fail
                    go_meet
                    exact ⟨rfl, P, Q, rfl, rfl, x11, x12, ho, HB.out⟩
          case rest =>
            obtain ⟨rfl, P, Q, rfl, rfl, x11, x12, ho, hbc⟩ := hcut
            replace HB := Lib.hid hbc
            clear hbc hbw hzr ga0 ga1 ga2 ga3 ga4 gs0 gs1 gs2 gs3 gs4
            have hRw := h.below HB.out hB
            obtain ⟨b_, off_, a', e_, hb_, oka, HXa, ga0, ga1, ga2, ga3, ga4⟩ := ShadeR_at (F := shadeF) rfl (fun _ => rfl) (fun _ => rfl) hRw hlt
            cases e_
            obtain rfl : a = a' := Option.some.inj (Ha.out.symm.trans HXa.out)
            clear HXa
            obtain ⟨b_, off_, s', e_, hb_, oks, HXs, gs0, gs1, gs2, gs3, gs4⟩ := ShadeR_at (F := shadeF) rfl (fun _ => rfl) (fun _ => rfl) hRw hlt3
            cases e_
            obtain rfl : s = s' := Option.some.inj (Hs.out.symm.trans HXs.out)
            clear HXs
            have hzr := HB.out.size
            have hbw : b_ < wc.heap.size := by omega
            clear hRw
            have hfa : Deep (fadD ye a) := fad_deep ha2 ha4 hy
            have hfs : Deep (fadD ye s) := fad_deep hs2 hs4 hy
            obtain ⟨D, HD⟩ : ∃ D, Hid (nowD a s = D) := ⟨_, rfl⟩
            obtain ⟨E, HE⟩ : ∃ E, Hid (thenD ye a s = E) := ⟨_, rfl⟩
            have hdist : ∀ w, Calls Try.prog 29 #[.agg #[.int .i64 a.f0, .string a.f1, .int .i64 a.f2, .int .i64 a.f3, .int .i64 a.f4], .int .i64 s.f2, .int .i64 s.f3] w (Out w (.int .i64 D)) := fun w => HD.out ▸ l3Far_any a s.f2 s.f3 w ha1 hs1 ha2 hs2
            have hdist2 : ∀ w, Calls Try.prog 29 #[.agg #[.int .i64 a.f0, .string a.f1, .int .i64 a.f2, .int .i64 (max (a.f3 - ye / (5 * a.f4)) 0), .int .i64 a.f4], .int .i64 s.f2, .int .i64 (max (s.f3 - ye / (5 * s.f4)) 0)] w (Out w (.int .i64 E)) := fun w => HE.out ▸ l3Far_any (⟨a.f0, a.f1, a.f2, fadD ye a, a.f4⟩ : ShadeR) s.f2 (fadD ye s) w ha1 hs1 hfa hfs
            have HD1 := Lib.hid hdist
            have HD2 := Lib.hid hdist2
            clear hdist hdist2
            by_cases t1 : le ≤ D
            rotate_left
            · have t1' : decide (le ≤ D) = false := decide_eq_false t1
              go_wp2
              refine wp_region_noPanic ?_
              refine wp_region_held_drew (S := (fun w' => w'.cell? ⟨b_, off_ + i * 5, none⟩ = some (.int .i64 a.f0) ∧ w'.cell? ⟨b_, off_ + i * 5 + 1, none⟩ = some (.string a.f1) ∧ w'.cell? ⟨b_, off_ + i * 5 + 2, none⟩ = some (.int .i64 a.f2) ∧ w'.cell? ⟨b_, off_ + i * 5 + 3, none⟩ = some (.int .i64 a.f3) ∧ w'.cell? ⟨b_, off_ + i * 5 + 4, none⟩ = some (.int .i64 a.f4) ∧ w'.cell? ⟨b_, off_ + k * 5, none⟩ = some (.int .i64 s.f0) ∧ w'.cell? ⟨b_, off_ + k * 5 + 1, none⟩ = some (.string s.f1) ∧ w'.cell? ⟨b_, off_ + k * 5 + 2, none⟩ = some (.int .i64 s.f2) ∧ w'.cell? ⟨b_, off_ + k * 5 + 3, none⟩ = some (.int .i64 s.f3) ∧ w'.cell? ⟨b_, off_ + k * 5 + 4, none⟩ = some (.int .i64 s.f4) ∧ w'.cell? ⟨P, 0, none⟩ = some (.int .i64 a.f0) ∧ w'.cell? ⟨P, 1, none⟩ = some (.string a.f1) ∧ w'.cell? ⟨P, 2, none⟩ = some (.int .i64 a.f2) ∧ w'.cell? ⟨P, 3, none⟩ = some (.int .i64 (max (a.f3 - ye / (5 * a.f4)) 0)) ∧ w'.cell? ⟨P, 4, none⟩ = some (.int .i64 a.f4) ∧ w'.cell? ⟨Q, 0, none⟩ = some (.int .i64 s.f0) ∧ w'.cell? ⟨Q, 1, none⟩ = some (.string s.f1) ∧ w'.cell? ⟨Q, 2, none⟩ = some (.int .i64 s.f2) ∧ w'.cell? ⟨Q, 3, none⟩ = some (.int .i64 (max (s.f3 - ye / (5 * s.f4)) 0)) ∧ w'.cell? ⟨Q, 4, none⟩ = some (.int .i64 s.f4))) (by kernel_rfl) (by exact ⟨ga0, ga1, ga2, ga3, ga4, gs0, gs1, gs2, gs3, gs4, x11.cell 0, x11.cell 1, x11.cell 2, x11.cell 3, x11.cell 4, x12.cell 0, x12.cell 1, x12.cell 2, x12.cell 3, x12.cell 4⟩) (fun hHeld => ?_)
              refine wpAnyH_take (i := 0) (v := ?_) rfl (by kernel_rfl) (by kernel_rfl) (by kernel_rfl) (fun _ _ _ h => h) (Or.inl ⟨by rfl, ?_⟩) (by assumption) ?_
              rotate_left
              · intro w hSw; (try dsimp only at hSw); go_simp; (try with_reducible rfl)
              (try simp only [Act.put, List.getElem_toArray, List.getElem_cons_zero, List.setIfInBounds_toArray, List.set_cons_zero, List.set_cons_succ])
              refine wpAnyH_take (i := 1) (v := ?_) rfl (by kernel_rfl) (by kernel_rfl) (by kernel_rfl) (fun _ _ _ h => h) (Or.inl ⟨by rfl, ?_⟩) (by assumption) ?_
              rotate_left
              · intro w hSw; (try dsimp only at hSw); go_simp; (try with_reducible rfl)
              (try simp only [Act.put, List.getElem_toArray, List.getElem_cons_zero, List.getElem_cons_succ, List.setIfInBounds_toArray, List.set_cons_zero, List.set_cons_succ])
              refine wpAnyH_take (i := 2) (v := ?_) rfl (by kernel_rfl) (by kernel_rfl) (by kernel_rfl) (fun _ _ _ h => h) (Or.inl ⟨by rfl, ?_⟩) (by assumption) ?_
              rotate_left
              · intro w hSw; (try dsimp only at hSw); go_simp; (try with_reducible rfl)
              (try simp only [Act.put, List.getElem_toArray, List.getElem_cons_zero, List.getElem_cons_succ, List.setIfInBounds_toArray, List.set_cons_zero, List.set_cons_succ])
              refine wpAnyH_take (i := 3) (v := ?_) rfl (by kernel_rfl) (by kernel_rfl) (by kernel_rfl) (fun _ _ _ h => h) (Or.inl ⟨by rfl, ?_⟩) (by assumption) ?_
              rotate_left
              · intro w hSw; (try dsimp only at hSw); go_simp; (try with_reducible rfl)
              (try simp only [Act.put, List.getElem_toArray, List.getElem_cons_zero, List.getElem_cons_succ, List.setIfInBounds_toArray, List.set_cons_zero, List.set_cons_succ])
              refine wpAnyH_take (i := 4) (v := ?_) rfl (by kernel_rfl) (by kernel_rfl) (by kernel_rfl) (fun _ _ _ h => h) (Or.inl ⟨by rfl, ?_⟩) (by assumption) ?_
              rotate_left
              · intro w hSw; (try dsimp only at hSw); go_simp; (try with_reducible rfl)
              (try simp only [Act.put, List.getElem_toArray, List.getElem_cons_zero, List.getElem_cons_succ, List.setIfInBounds_toArray, List.set_cons_zero, List.set_cons_succ])
              refine wpAnyH_take (i := 5) (v := ?_) rfl (by kernel_rfl) (by kernel_rfl) (by kernel_rfl) (fun _ _ _ h => h) (Or.inl ⟨by rfl, ?_⟩) (by assumption) ?_
              rotate_left
              · intro w hSw; (try dsimp only at hSw); go_simp; (try with_reducible rfl)
              (try simp only [Act.put, List.getElem_toArray, List.getElem_cons_zero, List.getElem_cons_succ, List.setIfInBounds_toArray, List.set_cons_zero, List.set_cons_succ])
              refine wpAnyH_take (i := 6) (v := ?_) rfl (by kernel_rfl) (by kernel_rfl) (by kernel_rfl) (fun _ _ _ h => h) (Or.inl ⟨by rfl, ?_⟩) (by assumption) ?_
              rotate_left
              · intro w hSw; (try dsimp only at hSw); go_simp; (try with_reducible rfl)
              (try simp only [Act.put, List.getElem_toArray, List.getElem_cons_zero, List.getElem_cons_succ, List.setIfInBounds_toArray, List.set_cons_zero, List.set_cons_succ])
              refine wpAnyH_take (i := 7) (v := ?_) rfl (by kernel_rfl) (by kernel_rfl) (by kernel_rfl) (fun _ _ _ h => h) (Or.inl ⟨by rfl, ?_⟩) (by assumption) ?_
              rotate_left
              · intro w hSw; (try dsimp only at hSw); go_simp; (try with_reducible rfl)
              (try simp only [Act.put, List.getElem_toArray, List.getElem_cons_zero, List.getElem_cons_succ, List.setIfInBounds_toArray, List.set_cons_zero, List.set_cons_succ])
              refine wpAnyH_take (i := 8) (v := ?_) rfl (by kernel_rfl) (by kernel_rfl) (by kernel_rfl) (fun _ _ _ h => h) (Or.inl ⟨by rfl, ?_⟩) (by assumption) ?_
              rotate_left
              · intro w hSw; (try dsimp only at hSw); go_simp; (try with_reducible rfl)
              (try simp only [Act.put, List.getElem_toArray, List.getElem_cons_zero, List.getElem_cons_succ, List.setIfInBounds_toArray, List.set_cons_zero, List.set_cons_succ])
              refine wpAnyH_take (i := 9) (v := ?_) rfl (by kernel_rfl) (by kernel_rfl) (by kernel_rfl) (fun _ _ _ h => h) (Or.inl ⟨by rfl, ?_⟩) (by assumption) ?_
              rotate_left
              · intro w hSw; (try dsimp only at hSw); go_simp; (try with_reducible rfl)
              (try simp only [Act.put, List.getElem_toArray, List.getElem_cons_zero, List.getElem_cons_succ, List.setIfInBounds_toArray, List.set_cons_zero, List.set_cons_succ])
              refine wpAnyH_take (i := 10) (v := ?_) rfl (by kernel_rfl) (by kernel_rfl) (by kernel_rfl) (fun _ _ _ h => h) (Or.inl ⟨by rfl, ?_⟩) (by assumption) ?_
              rotate_left
              · intro w hSw; (try dsimp only at hSw); go_simp; (try with_reducible rfl)
              (try simp only [Act.put, List.getElem_toArray, List.getElem_cons_zero, List.getElem_cons_succ, List.setIfInBounds_toArray, List.set_cons_zero, List.set_cons_succ])
              refine wpAnyH_take (i := 11) (v := ?_) rfl (by kernel_rfl) (by kernel_rfl) (by kernel_rfl) (fun _ _ _ h => h) (Or.inl ⟨by rfl, ?_⟩) (by assumption) ?_
              rotate_left
              · intro w hSw; (try dsimp only at hSw); go_simp; (try with_reducible rfl)
              (try simp only [Act.put, List.getElem_toArray, List.getElem_cons_zero, List.getElem_cons_succ, List.setIfInBounds_toArray, List.set_cons_zero, List.set_cons_succ])
              refine wpAnyH_take (i := 12) (v := ?_) rfl (by kernel_rfl) (by kernel_rfl) (by kernel_rfl) (fun _ _ _ h => h) (Or.inl ⟨by rfl, ?_⟩) (by assumption) ?_
              rotate_left
              · intro w hSw; (try dsimp only at hSw); go_simp; (try with_reducible rfl)
              (try simp only [Act.put, List.getElem_toArray, List.getElem_cons_zero, List.getElem_cons_succ, List.setIfInBounds_toArray, List.set_cons_zero, List.set_cons_succ])
              refine wpAnyH_take (i := 13) (v := ?_) rfl (by kernel_rfl) (by kernel_rfl) (by kernel_rfl) (fun _ _ _ h => h) (Or.inl ⟨by rfl, ?_⟩) (by assumption) ?_
              rotate_left
              · intro w hSw; (try dsimp only at hSw); go_simp; (try with_reducible rfl)
              (try simp only [Act.put, List.getElem_toArray, List.getElem_cons_zero, List.getElem_cons_succ, List.setIfInBounds_toArray, List.set_cons_zero, List.set_cons_succ])
              refine wpAnyH_take (i := 15) (v := ?_) rfl (by kernel_rfl) (by kernel_rfl) (by kernel_rfl) (fun _ _ _ h => h) (Or.inl ⟨by rfl, ?_⟩) (by assumption) ?_
              rotate_left
              · intro w hSw; (try dsimp only at hSw); go_simp; (try with_reducible rfl)
              (try simp only [Act.put, List.getElem_toArray, List.getElem_cons_zero, List.getElem_cons_succ, List.setIfInBounds_toArray, List.set_cons_zero, List.set_cons_succ])
              refine wpAnyH_ready (rs := [14]) (by kernel_rfl) (by simp) ?_
              refine AllReadyH.cons rfl (fun K hK => ?_) AllReadyH.nil
              go_simp
              (first | ((with_reducible refine (HD1.out _).mono ?_); rintro e w5 ⟨rfl, hb5⟩; (try replace hb5 := below_drew' hb5); replace x11 := x11.all hb5; replace x12 := x12.all hb5; replace ho := ho.all hb5; replace HB := Lib.hid (HB.out.trans (hb5.mono HB.out.size)); replace ga0 := cells_of hb5 ga0 hbw; replace ga1 := cells_of hb5 ga1 hbw; replace ga2 := cells_of hb5 ga2 hbw; replace ga3 := cells_of hb5 ga3 hbw; replace ga4 := cells_of hb5 ga4 hbw; replace gs0 := cells_of hb5 gs0 hbw; replace gs1 := cells_of hb5 gs1 hbw; replace gs2 := cells_of hb5 gs2 hbw; replace gs3 := cells_of hb5 gs3 hbw; replace gs4 := cells_of hb5 gs4 hbw; replace hbw := Nat.lt_of_lt_of_le hbw hb5.size; clear hb5; go_simp))
              refine hK.out _ _ (by exact ⟨ga0, ga1, ga2, ga3, ga4, gs0, gs1, gs2, gs3, gs4, x11.cell 0, x11.cell 1, x11.cell 2, x11.cell 3, x11.cell 4, x12.cell 0, x12.cell 1, x12.cell 2, x12.cell 3, x12.cell 4⟩) (fun hHeld => ?_)
              clear hK K
              (try simp only [Act.put, List.getElem_toArray, List.getElem_cons_zero, List.getElem_cons_succ, List.setIfInBounds_toArray, List.set_cons_zero, List.set_cons_succ])
              refine wpAnyH_take (i := 16) (v := ?_) rfl (by kernel_rfl) (by kernel_rfl) (by kernel_rfl) (fun _ _ _ h => h) (Or.inl ⟨by rfl, ?_⟩) (by assumption) ?_
              rotate_left
              · intro w hSw; (try dsimp only at hSw); go_simp; (try with_reducible rfl)
              (try simp only [Act.put, List.getElem_toArray, List.getElem_cons_zero, List.getElem_cons_succ, List.setIfInBounds_toArray, List.set_cons_zero, List.set_cons_succ])
              refine wpAnyH_take (i := 17) (v := ?_) rfl (by kernel_rfl) (by kernel_rfl) (by kernel_rfl) (fun _ _ _ h => h) (Or.inl ⟨by rfl, ?_⟩) (by assumption) ?_
              rotate_left
              · intro w hSw; (try dsimp only at hSw); go_simp; (try with_reducible rfl)
              (try simp only [Act.put, List.getElem_toArray, List.getElem_cons_zero, List.getElem_cons_succ, List.setIfInBounds_toArray, List.set_cons_zero, List.set_cons_succ])
              refine wpAnyH_take (i := 18) (v := undef) rfl (by kernel_rfl) (by kernel_rfl) (by kernel_rfl) (fun _ _ _ h => h) (Or.inr ⟨by rfl, rfl⟩) (by assumption) ?_
              (try simp only [Act.put, List.getElem_toArray, List.getElem_cons_zero, List.getElem_cons_succ, List.setIfInBounds_toArray, List.set_cons_zero, List.set_cons_succ])
              refine wpAnyH_take (i := 19) (v := undef) rfl (by kernel_rfl) (by kernel_rfl) (by kernel_rfl) (fun _ _ _ h => h) (Or.inr ⟨by rfl, rfl⟩) (by assumption) ?_
              (try simp only [Act.put, List.getElem_toArray, List.getElem_cons_zero, List.getElem_cons_succ, List.setIfInBounds_toArray, List.set_cons_zero, List.set_cons_succ])
              refine wpAnyH_take (i := 20) (v := undef) rfl (by kernel_rfl) (by kernel_rfl) (by kernel_rfl) (fun _ _ _ h => h) (Or.inr ⟨by rfl, rfl⟩) (by assumption) ?_
              (try simp only [Act.put, List.getElem_toArray, List.getElem_cons_zero, List.getElem_cons_succ, List.setIfInBounds_toArray, List.set_cons_zero, List.set_cons_succ])
              refine wpAnyH_take (i := 21) (v := undef) rfl (by kernel_rfl) (by kernel_rfl) (by kernel_rfl) (fun _ _ _ h => h) (Or.inr ⟨by rfl, rfl⟩) (by assumption) ?_
              (try simp only [Act.put, List.getElem_toArray, List.getElem_cons_zero, List.getElem_cons_succ, List.setIfInBounds_toArray, List.set_cons_zero, List.set_cons_succ])
              refine wpAnyH_take (i := 22) (v := undef) rfl (by kernel_rfl) (by kernel_rfl) (by kernel_rfl) (fun _ _ _ h => h) (Or.inr ⟨by rfl, rfl⟩) (by assumption) ?_
              (try simp only [Act.put, List.getElem_toArray, List.getElem_cons_zero, List.getElem_cons_succ, List.setIfInBounds_toArray, List.set_cons_zero, List.set_cons_succ])
              refine wpAnyH_take (i := 23) (v := undef) rfl (by kernel_rfl) (by kernel_rfl) (by kernel_rfl) (fun _ _ _ h => h) (Or.inr ⟨by rfl, rfl⟩) (by assumption) ?_
              (try simp only [Act.put, List.getElem_toArray, List.getElem_cons_zero, List.getElem_cons_succ, List.setIfInBounds_toArray, List.set_cons_zero, List.set_cons_succ])
              refine wpAnyH_take (i := 24) (v := undef) rfl (by kernel_rfl) (by kernel_rfl) (by kernel_rfl) (fun _ _ _ h => h) (Or.inr ⟨by rfl, rfl⟩) (by assumption) ?_
              (try simp only [Act.put, List.getElem_toArray, List.getElem_cons_zero, List.getElem_cons_succ, List.setIfInBounds_toArray, List.set_cons_zero, List.set_cons_succ])
              refine wpAnyH_take (i := 25) (v := undef) rfl (by kernel_rfl) (by kernel_rfl) (by kernel_rfl) (fun _ _ _ h => h) (Or.inr ⟨by rfl, rfl⟩) (by assumption) ?_
              (try simp only [Act.put, List.getElem_toArray, List.getElem_cons_zero, List.getElem_cons_succ, List.setIfInBounds_toArray, List.set_cons_zero, List.set_cons_succ])
              refine wpAnyH_take (i := 26) (v := ?_) rfl (by kernel_rfl) (by kernel_rfl) (by kernel_rfl) (fun _ _ _ h => h) (Or.inl ⟨by rfl, ?_⟩) (by assumption) ?_
              rotate_left
              · intro w hSw; (try dsimp only at hSw); go_simp; (try with_reducible rfl)
              (try simp only [Act.put, List.getElem_toArray, List.getElem_cons_zero, List.getElem_cons_succ, List.setIfInBounds_toArray, List.set_cons_zero, List.set_cons_succ])
              refine wpAnyH_done (by kernel_rfl) ?_ _
              refine NoPanic.normal ?_
              go_wp2_with fail
              go_roundw
              case rel => exact ⟨k + 1, A8, c8, acc3, by omega, by go_num, rfl, Lib.hid (bRows_no Hs.out (fun hh => by have h1 : le ≤ D := HD.out ▸ hh.1; omega) HACC3.out), ho, HB⟩
              case measure => simp [intOf]; omega
            have t1' : decide (le ≤ D) = true := decide_eq_true t1
            by_cases t2 : E < le
            rotate_left
            · have t2' : decide (E < le) = false := decide_eq_false t2
              go_wp2
              refine wp_region_noPanic ?_
              refine wp_region_held_drew (S := (fun w' => w'.cell? ⟨b_, off_ + i * 5, none⟩ = some (.int .i64 a.f0) ∧ w'.cell? ⟨b_, off_ + i * 5 + 1, none⟩ = some (.string a.f1) ∧ w'.cell? ⟨b_, off_ + i * 5 + 2, none⟩ = some (.int .i64 a.f2) ∧ w'.cell? ⟨b_, off_ + i * 5 + 3, none⟩ = some (.int .i64 a.f3) ∧ w'.cell? ⟨b_, off_ + i * 5 + 4, none⟩ = some (.int .i64 a.f4) ∧ w'.cell? ⟨b_, off_ + k * 5, none⟩ = some (.int .i64 s.f0) ∧ w'.cell? ⟨b_, off_ + k * 5 + 1, none⟩ = some (.string s.f1) ∧ w'.cell? ⟨b_, off_ + k * 5 + 2, none⟩ = some (.int .i64 s.f2) ∧ w'.cell? ⟨b_, off_ + k * 5 + 3, none⟩ = some (.int .i64 s.f3) ∧ w'.cell? ⟨b_, off_ + k * 5 + 4, none⟩ = some (.int .i64 s.f4) ∧ w'.cell? ⟨P, 0, none⟩ = some (.int .i64 a.f0) ∧ w'.cell? ⟨P, 1, none⟩ = some (.string a.f1) ∧ w'.cell? ⟨P, 2, none⟩ = some (.int .i64 a.f2) ∧ w'.cell? ⟨P, 3, none⟩ = some (.int .i64 (max (a.f3 - ye / (5 * a.f4)) 0)) ∧ w'.cell? ⟨P, 4, none⟩ = some (.int .i64 a.f4) ∧ w'.cell? ⟨Q, 0, none⟩ = some (.int .i64 s.f0) ∧ w'.cell? ⟨Q, 1, none⟩ = some (.string s.f1) ∧ w'.cell? ⟨Q, 2, none⟩ = some (.int .i64 s.f2) ∧ w'.cell? ⟨Q, 3, none⟩ = some (.int .i64 (max (s.f3 - ye / (5 * s.f4)) 0)) ∧ w'.cell? ⟨Q, 4, none⟩ = some (.int .i64 s.f4))) (by kernel_rfl) (by exact ⟨ga0, ga1, ga2, ga3, ga4, gs0, gs1, gs2, gs3, gs4, x11.cell 0, x11.cell 1, x11.cell 2, x11.cell 3, x11.cell 4, x12.cell 0, x12.cell 1, x12.cell 2, x12.cell 3, x12.cell 4⟩) (fun hHeld => ?_)
              refine wpAnyH_take (i := 0) (v := ?_) rfl (by kernel_rfl) (by kernel_rfl) (by kernel_rfl) (fun _ _ _ h => h) (Or.inl ⟨by rfl, ?_⟩) (by assumption) ?_
              rotate_left
              · intro w hSw; (try dsimp only at hSw); go_simp; (try with_reducible rfl)
              (try simp only [Act.put, List.getElem_toArray, List.getElem_cons_zero, List.setIfInBounds_toArray, List.set_cons_zero, List.set_cons_succ])
              refine wpAnyH_take (i := 1) (v := ?_) rfl (by kernel_rfl) (by kernel_rfl) (by kernel_rfl) (fun _ _ _ h => h) (Or.inl ⟨by rfl, ?_⟩) (by assumption) ?_
              rotate_left
              · intro w hSw; (try dsimp only at hSw); go_simp; (try with_reducible rfl)
              (try simp only [Act.put, List.getElem_toArray, List.getElem_cons_zero, List.getElem_cons_succ, List.setIfInBounds_toArray, List.set_cons_zero, List.set_cons_succ])
              refine wpAnyH_take (i := 2) (v := ?_) rfl (by kernel_rfl) (by kernel_rfl) (by kernel_rfl) (fun _ _ _ h => h) (Or.inl ⟨by rfl, ?_⟩) (by assumption) ?_
              rotate_left
              · intro w hSw; (try dsimp only at hSw); go_simp; (try with_reducible rfl)
              (try simp only [Act.put, List.getElem_toArray, List.getElem_cons_zero, List.getElem_cons_succ, List.setIfInBounds_toArray, List.set_cons_zero, List.set_cons_succ])
              refine wpAnyH_take (i := 3) (v := ?_) rfl (by kernel_rfl) (by kernel_rfl) (by kernel_rfl) (fun _ _ _ h => h) (Or.inl ⟨by rfl, ?_⟩) (by assumption) ?_
              rotate_left
              · intro w hSw; (try dsimp only at hSw); go_simp; (try with_reducible rfl)
              (try simp only [Act.put, List.getElem_toArray, List.getElem_cons_zero, List.getElem_cons_succ, List.setIfInBounds_toArray, List.set_cons_zero, List.set_cons_succ])
              refine wpAnyH_take (i := 4) (v := ?_) rfl (by kernel_rfl) (by kernel_rfl) (by kernel_rfl) (fun _ _ _ h => h) (Or.inl ⟨by rfl, ?_⟩) (by assumption) ?_
              rotate_left
              · intro w hSw; (try dsimp only at hSw); go_simp; (try with_reducible rfl)
              (try simp only [Act.put, List.getElem_toArray, List.getElem_cons_zero, List.getElem_cons_succ, List.setIfInBounds_toArray, List.set_cons_zero, List.set_cons_succ])
              refine wpAnyH_take (i := 5) (v := ?_) rfl (by kernel_rfl) (by kernel_rfl) (by kernel_rfl) (fun _ _ _ h => h) (Or.inl ⟨by rfl, ?_⟩) (by assumption) ?_
              rotate_left
              · intro w hSw; (try dsimp only at hSw); go_simp; (try with_reducible rfl)
              (try simp only [Act.put, List.getElem_toArray, List.getElem_cons_zero, List.getElem_cons_succ, List.setIfInBounds_toArray, List.set_cons_zero, List.set_cons_succ])
              refine wpAnyH_take (i := 6) (v := ?_) rfl (by kernel_rfl) (by kernel_rfl) (by kernel_rfl) (fun _ _ _ h => h) (Or.inl ⟨by rfl, ?_⟩) (by assumption) ?_
              rotate_left
              · intro w hSw; (try dsimp only at hSw); go_simp; (try with_reducible rfl)
              (try simp only [Act.put, List.getElem_toArray, List.getElem_cons_zero, List.getElem_cons_succ, List.setIfInBounds_toArray, List.set_cons_zero, List.set_cons_succ])
              refine wpAnyH_take (i := 7) (v := ?_) rfl (by kernel_rfl) (by kernel_rfl) (by kernel_rfl) (fun _ _ _ h => h) (Or.inl ⟨by rfl, ?_⟩) (by assumption) ?_
              rotate_left
              · intro w hSw; (try dsimp only at hSw); go_simp; (try with_reducible rfl)
              (try simp only [Act.put, List.getElem_toArray, List.getElem_cons_zero, List.getElem_cons_succ, List.setIfInBounds_toArray, List.set_cons_zero, List.set_cons_succ])
              refine wpAnyH_take (i := 8) (v := ?_) rfl (by kernel_rfl) (by kernel_rfl) (by kernel_rfl) (fun _ _ _ h => h) (Or.inl ⟨by rfl, ?_⟩) (by assumption) ?_
              rotate_left
              · intro w hSw; (try dsimp only at hSw); go_simp; (try with_reducible rfl)
              (try simp only [Act.put, List.getElem_toArray, List.getElem_cons_zero, List.getElem_cons_succ, List.setIfInBounds_toArray, List.set_cons_zero, List.set_cons_succ])
              refine wpAnyH_take (i := 9) (v := ?_) rfl (by kernel_rfl) (by kernel_rfl) (by kernel_rfl) (fun _ _ _ h => h) (Or.inl ⟨by rfl, ?_⟩) (by assumption) ?_
              rotate_left
              · intro w hSw; (try dsimp only at hSw); go_simp; (try with_reducible rfl)
              (try simp only [Act.put, List.getElem_toArray, List.getElem_cons_zero, List.getElem_cons_succ, List.setIfInBounds_toArray, List.set_cons_zero, List.set_cons_succ])
              refine wpAnyH_take (i := 10) (v := ?_) rfl (by kernel_rfl) (by kernel_rfl) (by kernel_rfl) (fun _ _ _ h => h) (Or.inl ⟨by rfl, ?_⟩) (by assumption) ?_
              rotate_left
              · intro w hSw; (try dsimp only at hSw); go_simp; (try with_reducible rfl)
              (try simp only [Act.put, List.getElem_toArray, List.getElem_cons_zero, List.getElem_cons_succ, List.setIfInBounds_toArray, List.set_cons_zero, List.set_cons_succ])
              refine wpAnyH_take (i := 11) (v := ?_) rfl (by kernel_rfl) (by kernel_rfl) (by kernel_rfl) (fun _ _ _ h => h) (Or.inl ⟨by rfl, ?_⟩) (by assumption) ?_
              rotate_left
              · intro w hSw; (try dsimp only at hSw); go_simp; (try with_reducible rfl)
              (try simp only [Act.put, List.getElem_toArray, List.getElem_cons_zero, List.getElem_cons_succ, List.setIfInBounds_toArray, List.set_cons_zero, List.set_cons_succ])
              refine wpAnyH_take (i := 12) (v := ?_) rfl (by kernel_rfl) (by kernel_rfl) (by kernel_rfl) (fun _ _ _ h => h) (Or.inl ⟨by rfl, ?_⟩) (by assumption) ?_
              rotate_left
              · intro w hSw; (try dsimp only at hSw); go_simp; (try with_reducible rfl)
              (try simp only [Act.put, List.getElem_toArray, List.getElem_cons_zero, List.getElem_cons_succ, List.setIfInBounds_toArray, List.set_cons_zero, List.set_cons_succ])
              refine wpAnyH_take (i := 13) (v := ?_) rfl (by kernel_rfl) (by kernel_rfl) (by kernel_rfl) (fun _ _ _ h => h) (Or.inl ⟨by rfl, ?_⟩) (by assumption) ?_
              rotate_left
              · intro w hSw; (try dsimp only at hSw); go_simp; (try with_reducible rfl)
              (try simp only [Act.put, List.getElem_toArray, List.getElem_cons_zero, List.getElem_cons_succ, List.setIfInBounds_toArray, List.set_cons_zero, List.set_cons_succ])
              refine wpAnyH_take (i := 15) (v := ?_) rfl (by kernel_rfl) (by kernel_rfl) (by kernel_rfl) (fun _ _ _ h => h) (Or.inl ⟨by rfl, ?_⟩) (by assumption) ?_
              rotate_left
              · intro w hSw; (try dsimp only at hSw); go_simp; (try with_reducible rfl)
              (try simp only [Act.put, List.getElem_toArray, List.getElem_cons_zero, List.getElem_cons_succ, List.setIfInBounds_toArray, List.set_cons_zero, List.set_cons_succ])
              refine wpAnyH_ready (rs := [14]) (by kernel_rfl) (by simp) ?_
              refine AllReadyH.cons rfl (fun K hK => ?_) AllReadyH.nil
              go_simp
              (first | ((with_reducible refine (HD1.out _).mono ?_); rintro e w5 ⟨rfl, hb5⟩; (try replace hb5 := below_drew' hb5); replace x11 := x11.all hb5; replace x12 := x12.all hb5; replace ho := ho.all hb5; replace HB := Lib.hid (HB.out.trans (hb5.mono HB.out.size)); replace ga0 := cells_of hb5 ga0 hbw; replace ga1 := cells_of hb5 ga1 hbw; replace ga2 := cells_of hb5 ga2 hbw; replace ga3 := cells_of hb5 ga3 hbw; replace ga4 := cells_of hb5 ga4 hbw; replace gs0 := cells_of hb5 gs0 hbw; replace gs1 := cells_of hb5 gs1 hbw; replace gs2 := cells_of hb5 gs2 hbw; replace gs3 := cells_of hb5 gs3 hbw; replace gs4 := cells_of hb5 gs4 hbw; replace hbw := Nat.lt_of_lt_of_le hbw hb5.size; clear hb5; go_simp) | ((with_reducible refine (HD2.out _).mono ?_); rintro e w5 ⟨rfl, hb5⟩; (try replace hb5 := below_drew' hb5); replace x11 := x11.all hb5; replace x12 := x12.all hb5; replace ho := ho.all hb5; replace HB := Lib.hid (HB.out.trans (hb5.mono HB.out.size)); replace ga0 := cells_of hb5 ga0 hbw; replace ga1 := cells_of hb5 ga1 hbw; replace ga2 := cells_of hb5 ga2 hbw; replace ga3 := cells_of hb5 ga3 hbw; replace ga4 := cells_of hb5 ga4 hbw; replace gs0 := cells_of hb5 gs0 hbw; replace gs1 := cells_of hb5 gs1 hbw; replace gs2 := cells_of hb5 gs2 hbw; replace gs3 := cells_of hb5 gs3 hbw; replace gs4 := cells_of hb5 gs4 hbw; replace hbw := Nat.lt_of_lt_of_le hbw hb5.size; clear hb5; go_simp))
              refine hK.out _ _ (by exact ⟨ga0, ga1, ga2, ga3, ga4, gs0, gs1, gs2, gs3, gs4, x11.cell 0, x11.cell 1, x11.cell 2, x11.cell 3, x11.cell 4, x12.cell 0, x12.cell 1, x12.cell 2, x12.cell 3, x12.cell 4⟩) (fun hHeld => ?_)
              clear hK K
              (try simp only [Act.put, List.getElem_toArray, List.getElem_cons_zero, List.getElem_cons_succ, List.setIfInBounds_toArray, List.set_cons_zero, List.set_cons_succ])
              refine wpAnyH_take (i := 16) (v := ?_) rfl (by kernel_rfl) (by kernel_rfl) (by kernel_rfl) (fun _ _ _ h => h) (Or.inl ⟨by rfl, ?_⟩) (by assumption) ?_
              rotate_left
              · intro w hSw; (try dsimp only at hSw); go_simp; (try with_reducible rfl)
              (try simp only [Act.put, List.getElem_toArray, List.getElem_cons_zero, List.getElem_cons_succ, List.setIfInBounds_toArray, List.set_cons_zero, List.set_cons_succ])
              refine wpAnyH_take (i := 17) (v := ?_) rfl (by kernel_rfl) (by kernel_rfl) (by kernel_rfl) (fun _ _ _ h => h) (Or.inl ⟨by rfl, ?_⟩) (by assumption) ?_
              rotate_left
              · intro w hSw; (try dsimp only at hSw); go_simp; (try with_reducible rfl)
              (try simp only [Act.put, List.getElem_toArray, List.getElem_cons_zero, List.getElem_cons_succ, List.setIfInBounds_toArray, List.set_cons_zero, List.set_cons_succ])
              refine wpAnyH_take (i := 18) (v := ?_) rfl (by kernel_rfl) (by kernel_rfl) (by kernel_rfl) (fun _ _ _ h => h) (Or.inl ⟨by rfl, ?_⟩) (by assumption) ?_
              rotate_left
              · intro w hSw; (try dsimp only at hSw); go_simp; (try with_reducible rfl)
              (try simp only [Act.put, List.getElem_toArray, List.getElem_cons_zero, List.getElem_cons_succ, List.setIfInBounds_toArray, List.set_cons_zero, List.set_cons_succ])
              refine wpAnyH_take (i := 19) (v := ?_) rfl (by kernel_rfl) (by kernel_rfl) (by kernel_rfl) (fun _ _ _ h => h) (Or.inl ⟨by rfl, ?_⟩) (by assumption) ?_
              rotate_left
              · intro w hSw; (try dsimp only at hSw); go_simp; (try with_reducible rfl)
              (try simp only [Act.put, List.getElem_toArray, List.getElem_cons_zero, List.getElem_cons_succ, List.setIfInBounds_toArray, List.set_cons_zero, List.set_cons_succ])
              refine wpAnyH_take (i := 20) (v := ?_) rfl (by kernel_rfl) (by kernel_rfl) (by kernel_rfl) (fun _ _ _ h => h) (Or.inl ⟨by rfl, ?_⟩) (by assumption) ?_
              rotate_left
              · intro w hSw; (try dsimp only at hSw); go_simp; (try with_reducible rfl)
              (try simp only [Act.put, List.getElem_toArray, List.getElem_cons_zero, List.getElem_cons_succ, List.setIfInBounds_toArray, List.set_cons_zero, List.set_cons_succ])
              refine wpAnyH_take (i := 21) (v := ?_) rfl (by kernel_rfl) (by kernel_rfl) (by kernel_rfl) (fun _ _ _ h => h) (Or.inl ⟨by rfl, ?_⟩) (by assumption) ?_
              rotate_left
              · intro w hSw; (try dsimp only at hSw); go_simp; (try with_reducible rfl)
              (try simp only [Act.put, List.getElem_toArray, List.getElem_cons_zero, List.getElem_cons_succ, List.setIfInBounds_toArray, List.set_cons_zero, List.set_cons_succ])
              refine wpAnyH_take (i := 22) (v := ?_) rfl (by kernel_rfl) (by kernel_rfl) (by kernel_rfl) (fun _ _ _ h => h) (Or.inl ⟨by rfl, ?_⟩) (by assumption) ?_
              rotate_left
              · intro w hSw; (try dsimp only at hSw); go_simp; (try with_reducible rfl)
              (try simp only [Act.put, List.getElem_toArray, List.getElem_cons_zero, List.getElem_cons_succ, List.setIfInBounds_toArray, List.set_cons_zero, List.set_cons_succ])
              refine wpAnyH_take (i := 24) (v := ?_) rfl (by kernel_rfl) (by kernel_rfl) (by kernel_rfl) (fun _ _ _ h => h) (Or.inl ⟨by rfl, ?_⟩) (by assumption) ?_
              rotate_left
              · intro w hSw; (try dsimp only at hSw); go_simp; (try with_reducible rfl)
              (try simp only [Act.put, List.getElem_toArray, List.getElem_cons_zero, List.getElem_cons_succ, List.setIfInBounds_toArray, List.set_cons_zero, List.set_cons_succ])
              refine wpAnyH_ready (rs := [23]) (by kernel_rfl) (by simp) ?_
              refine AllReadyH.cons rfl (fun K hK => ?_) AllReadyH.nil
              go_simp
              (first | ((with_reducible refine (HD1.out _).mono ?_); rintro e w5 ⟨rfl, hb5⟩; (try replace hb5 := below_drew' hb5); replace x11 := x11.all hb5; replace x12 := x12.all hb5; replace ho := ho.all hb5; replace HB := Lib.hid (HB.out.trans (hb5.mono HB.out.size)); replace ga0 := cells_of hb5 ga0 hbw; replace ga1 := cells_of hb5 ga1 hbw; replace ga2 := cells_of hb5 ga2 hbw; replace ga3 := cells_of hb5 ga3 hbw; replace ga4 := cells_of hb5 ga4 hbw; replace gs0 := cells_of hb5 gs0 hbw; replace gs1 := cells_of hb5 gs1 hbw; replace gs2 := cells_of hb5 gs2 hbw; replace gs3 := cells_of hb5 gs3 hbw; replace gs4 := cells_of hb5 gs4 hbw; replace hbw := Nat.lt_of_lt_of_le hbw hb5.size; clear hb5; go_simp) | ((with_reducible refine (HD2.out _).mono ?_); rintro e w5 ⟨rfl, hb5⟩; (try replace hb5 := below_drew' hb5); replace x11 := x11.all hb5; replace x12 := x12.all hb5; replace ho := ho.all hb5; replace HB := Lib.hid (HB.out.trans (hb5.mono HB.out.size)); replace ga0 := cells_of hb5 ga0 hbw; replace ga1 := cells_of hb5 ga1 hbw; replace ga2 := cells_of hb5 ga2 hbw; replace ga3 := cells_of hb5 ga3 hbw; replace ga4 := cells_of hb5 ga4 hbw; replace gs0 := cells_of hb5 gs0 hbw; replace gs1 := cells_of hb5 gs1 hbw; replace gs2 := cells_of hb5 gs2 hbw; replace gs3 := cells_of hb5 gs3 hbw; replace gs4 := cells_of hb5 gs4 hbw; replace hbw := Nat.lt_of_lt_of_le hbw hb5.size; clear hb5; go_simp))
              refine hK.out _ _ (by exact ⟨ga0, ga1, ga2, ga3, ga4, gs0, gs1, gs2, gs3, gs4, x11.cell 0, x11.cell 1, x11.cell 2, x11.cell 3, x11.cell 4, x12.cell 0, x12.cell 1, x12.cell 2, x12.cell 3, x12.cell 4⟩) (fun hHeld => ?_)
              clear hK K
              (try simp only [Act.put, List.getElem_toArray, List.getElem_cons_zero, List.getElem_cons_succ, List.setIfInBounds_toArray, List.set_cons_zero, List.set_cons_succ])
              refine wpAnyH_take (i := 25) (v := ?_) rfl (by kernel_rfl) (by kernel_rfl) (by kernel_rfl) (fun _ _ _ h => h) (Or.inl ⟨by rfl, ?_⟩) (by assumption) ?_
              rotate_left
              · intro w hSw; (try dsimp only at hSw); go_simp; (try with_reducible rfl)
              (try simp only [Act.put, List.getElem_toArray, List.getElem_cons_zero, List.getElem_cons_succ, List.setIfInBounds_toArray, List.set_cons_zero, List.set_cons_succ])
              refine wpAnyH_take (i := 26) (v := ?_) rfl (by kernel_rfl) (by kernel_rfl) (by kernel_rfl) (fun _ _ _ h => h) (Or.inl ⟨by rfl, ?_⟩) (by assumption) ?_
              rotate_left
              · intro w hSw; (try dsimp only at hSw); go_simp; (try with_reducible rfl)
              (try simp only [Act.put, List.getElem_toArray, List.getElem_cons_zero, List.getElem_cons_succ, List.setIfInBounds_toArray, List.set_cons_zero, List.set_cons_succ])
              refine wpAnyH_done (by kernel_rfl) ?_ _
              refine NoPanic.normal ?_
              go_wp2_with fail
              go_roundw
              case rel => exact ⟨k + 1, A8, c8, acc3, by omega, by go_num, rfl, Lib.hid (bRows_no Hs.out (fun hh => by have h1 : E < le := HE.out ▸ hh.2; omega) HACC3.out), ho, HB⟩
              case measure => simp [intOf]; omega
            have t2' : decide (E < le) = true := decide_eq_true t2
            go_wp2
            refine wp_region_noPanic ?_
            refine wp_region_held_drew (S := (fun w' => w'.cell? ⟨b_, off_ + i * 5, none⟩ = some (.int .i64 a.f0) ∧ w'.cell? ⟨b_, off_ + i * 5 + 1, none⟩ = some (.string a.f1) ∧ w'.cell? ⟨b_, off_ + i * 5 + 2, none⟩ = some (.int .i64 a.f2) ∧ w'.cell? ⟨b_, off_ + i * 5 + 3, none⟩ = some (.int .i64 a.f3) ∧ w'.cell? ⟨b_, off_ + i * 5 + 4, none⟩ = some (.int .i64 a.f4) ∧ w'.cell? ⟨b_, off_ + k * 5, none⟩ = some (.int .i64 s.f0) ∧ w'.cell? ⟨b_, off_ + k * 5 + 1, none⟩ = some (.string s.f1) ∧ w'.cell? ⟨b_, off_ + k * 5 + 2, none⟩ = some (.int .i64 s.f2) ∧ w'.cell? ⟨b_, off_ + k * 5 + 3, none⟩ = some (.int .i64 s.f3) ∧ w'.cell? ⟨b_, off_ + k * 5 + 4, none⟩ = some (.int .i64 s.f4) ∧ w'.cell? ⟨P, 0, none⟩ = some (.int .i64 a.f0) ∧ w'.cell? ⟨P, 1, none⟩ = some (.string a.f1) ∧ w'.cell? ⟨P, 2, none⟩ = some (.int .i64 a.f2) ∧ w'.cell? ⟨P, 3, none⟩ = some (.int .i64 (max (a.f3 - ye / (5 * a.f4)) 0)) ∧ w'.cell? ⟨P, 4, none⟩ = some (.int .i64 a.f4) ∧ w'.cell? ⟨Q, 0, none⟩ = some (.int .i64 s.f0) ∧ w'.cell? ⟨Q, 1, none⟩ = some (.string s.f1) ∧ w'.cell? ⟨Q, 2, none⟩ = some (.int .i64 s.f2) ∧ w'.cell? ⟨Q, 3, none⟩ = some (.int .i64 (max (s.f3 - ye / (5 * s.f4)) 0)) ∧ w'.cell? ⟨Q, 4, none⟩ = some (.int .i64 s.f4))) (by kernel_rfl) (by exact ⟨ga0, ga1, ga2, ga3, ga4, gs0, gs1, gs2, gs3, gs4, x11.cell 0, x11.cell 1, x11.cell 2, x11.cell 3, x11.cell 4, x12.cell 0, x12.cell 1, x12.cell 2, x12.cell 3, x12.cell 4⟩) (fun hHeld => ?_)
            refine wpAnyH_take (i := 0) (v := ?_) rfl (by kernel_rfl) (by kernel_rfl) (by kernel_rfl) (fun _ _ _ h => h) (Or.inl ⟨by rfl, ?_⟩) (by assumption) ?_
            rotate_left
            · intro w hSw; (try dsimp only at hSw); go_simp; (try with_reducible rfl)
            (try simp only [Act.put, List.getElem_toArray, List.getElem_cons_zero, List.setIfInBounds_toArray, List.set_cons_zero, List.set_cons_succ])
            refine wpAnyH_take (i := 1) (v := ?_) rfl (by kernel_rfl) (by kernel_rfl) (by kernel_rfl) (fun _ _ _ h => h) (Or.inl ⟨by rfl, ?_⟩) (by assumption) ?_
            rotate_left
            · intro w hSw; (try dsimp only at hSw); go_simp; (try with_reducible rfl)
            (try simp only [Act.put, List.getElem_toArray, List.getElem_cons_zero, List.getElem_cons_succ, List.setIfInBounds_toArray, List.set_cons_zero, List.set_cons_succ])
            refine wpAnyH_take (i := 2) (v := ?_) rfl (by kernel_rfl) (by kernel_rfl) (by kernel_rfl) (fun _ _ _ h => h) (Or.inl ⟨by rfl, ?_⟩) (by assumption) ?_
            rotate_left
            · intro w hSw; (try dsimp only at hSw); go_simp; (try with_reducible rfl)
            (try simp only [Act.put, List.getElem_toArray, List.getElem_cons_zero, List.getElem_cons_succ, List.setIfInBounds_toArray, List.set_cons_zero, List.set_cons_succ])
            refine wpAnyH_take (i := 3) (v := ?_) rfl (by kernel_rfl) (by kernel_rfl) (by kernel_rfl) (fun _ _ _ h => h) (Or.inl ⟨by rfl, ?_⟩) (by assumption) ?_
            rotate_left
            · intro w hSw; (try dsimp only at hSw); go_simp; (try with_reducible rfl)
            (try simp only [Act.put, List.getElem_toArray, List.getElem_cons_zero, List.getElem_cons_succ, List.setIfInBounds_toArray, List.set_cons_zero, List.set_cons_succ])
            refine wpAnyH_take (i := 4) (v := ?_) rfl (by kernel_rfl) (by kernel_rfl) (by kernel_rfl) (fun _ _ _ h => h) (Or.inl ⟨by rfl, ?_⟩) (by assumption) ?_
            rotate_left
            · intro w hSw; (try dsimp only at hSw); go_simp; (try with_reducible rfl)
            (try simp only [Act.put, List.getElem_toArray, List.getElem_cons_zero, List.getElem_cons_succ, List.setIfInBounds_toArray, List.set_cons_zero, List.set_cons_succ])
            refine wpAnyH_take (i := 5) (v := ?_) rfl (by kernel_rfl) (by kernel_rfl) (by kernel_rfl) (fun _ _ _ h => h) (Or.inl ⟨by rfl, ?_⟩) (by assumption) ?_
            rotate_left
            · intro w hSw; (try dsimp only at hSw); go_simp; (try with_reducible rfl)
            (try simp only [Act.put, List.getElem_toArray, List.getElem_cons_zero, List.getElem_cons_succ, List.setIfInBounds_toArray, List.set_cons_zero, List.set_cons_succ])
            refine wpAnyH_take (i := 6) (v := ?_) rfl (by kernel_rfl) (by kernel_rfl) (by kernel_rfl) (fun _ _ _ h => h) (Or.inl ⟨by rfl, ?_⟩) (by assumption) ?_
            rotate_left
            · intro w hSw; (try dsimp only at hSw); go_simp; (try with_reducible rfl)
            (try simp only [Act.put, List.getElem_toArray, List.getElem_cons_zero, List.getElem_cons_succ, List.setIfInBounds_toArray, List.set_cons_zero, List.set_cons_succ])
            refine wpAnyH_take (i := 7) (v := ?_) rfl (by kernel_rfl) (by kernel_rfl) (by kernel_rfl) (fun _ _ _ h => h) (Or.inl ⟨by rfl, ?_⟩) (by assumption) ?_
            rotate_left
            · intro w hSw; (try dsimp only at hSw); go_simp; (try with_reducible rfl)
            (try simp only [Act.put, List.getElem_toArray, List.getElem_cons_zero, List.getElem_cons_succ, List.setIfInBounds_toArray, List.set_cons_zero, List.set_cons_succ])
            refine wpAnyH_take (i := 8) (v := ?_) rfl (by kernel_rfl) (by kernel_rfl) (by kernel_rfl) (fun _ _ _ h => h) (Or.inl ⟨by rfl, ?_⟩) (by assumption) ?_
            rotate_left
            · intro w hSw; (try dsimp only at hSw); go_simp; (try with_reducible rfl)
            (try simp only [Act.put, List.getElem_toArray, List.getElem_cons_zero, List.getElem_cons_succ, List.setIfInBounds_toArray, List.set_cons_zero, List.set_cons_succ])
            refine wpAnyH_take (i := 9) (v := ?_) rfl (by kernel_rfl) (by kernel_rfl) (by kernel_rfl) (fun _ _ _ h => h) (Or.inl ⟨by rfl, ?_⟩) (by assumption) ?_
            rotate_left
            · intro w hSw; (try dsimp only at hSw); go_simp; (try with_reducible rfl)
            (try simp only [Act.put, List.getElem_toArray, List.getElem_cons_zero, List.getElem_cons_succ, List.setIfInBounds_toArray, List.set_cons_zero, List.set_cons_succ])
            refine wpAnyH_take (i := 10) (v := ?_) rfl (by kernel_rfl) (by kernel_rfl) (by kernel_rfl) (fun _ _ _ h => h) (Or.inl ⟨by rfl, ?_⟩) (by assumption) ?_
            rotate_left
            · intro w hSw; (try dsimp only at hSw); go_simp; (try with_reducible rfl)
            (try simp only [Act.put, List.getElem_toArray, List.getElem_cons_zero, List.getElem_cons_succ, List.setIfInBounds_toArray, List.set_cons_zero, List.set_cons_succ])
            refine wpAnyH_take (i := 11) (v := ?_) rfl (by kernel_rfl) (by kernel_rfl) (by kernel_rfl) (fun _ _ _ h => h) (Or.inl ⟨by rfl, ?_⟩) (by assumption) ?_
            rotate_left
            · intro w hSw; (try dsimp only at hSw); go_simp; (try with_reducible rfl)
            (try simp only [Act.put, List.getElem_toArray, List.getElem_cons_zero, List.getElem_cons_succ, List.setIfInBounds_toArray, List.set_cons_zero, List.set_cons_succ])
            refine wpAnyH_take (i := 12) (v := ?_) rfl (by kernel_rfl) (by kernel_rfl) (by kernel_rfl) (fun _ _ _ h => h) (Or.inl ⟨by rfl, ?_⟩) (by assumption) ?_
            rotate_left
            · intro w hSw; (try dsimp only at hSw); go_simp; (try with_reducible rfl)
            (try simp only [Act.put, List.getElem_toArray, List.getElem_cons_zero, List.getElem_cons_succ, List.setIfInBounds_toArray, List.set_cons_zero, List.set_cons_succ])
            refine wpAnyH_take (i := 13) (v := ?_) rfl (by kernel_rfl) (by kernel_rfl) (by kernel_rfl) (fun _ _ _ h => h) (Or.inl ⟨by rfl, ?_⟩) (by assumption) ?_
            rotate_left
            · intro w hSw; (try dsimp only at hSw); go_simp; (try with_reducible rfl)
            (try simp only [Act.put, List.getElem_toArray, List.getElem_cons_zero, List.getElem_cons_succ, List.setIfInBounds_toArray, List.set_cons_zero, List.set_cons_succ])
            refine wpAnyH_take (i := 15) (v := ?_) rfl (by kernel_rfl) (by kernel_rfl) (by kernel_rfl) (fun _ _ _ h => h) (Or.inl ⟨by rfl, ?_⟩) (by assumption) ?_
            rotate_left
            · intro w hSw; (try dsimp only at hSw); go_simp; (try with_reducible rfl)
            (try simp only [Act.put, List.getElem_toArray, List.getElem_cons_zero, List.getElem_cons_succ, List.setIfInBounds_toArray, List.set_cons_zero, List.set_cons_succ])
            refine wpAnyH_ready (rs := [14]) (by kernel_rfl) (by simp) ?_
            refine AllReadyH.cons rfl (fun K hK => ?_) AllReadyH.nil
            go_simp
            (first | ((with_reducible refine (HD1.out _).mono ?_); rintro e w5 ⟨rfl, hb5⟩; (try replace hb5 := below_drew' hb5); replace x11 := x11.all hb5; replace x12 := x12.all hb5; replace ho := ho.all hb5; replace HB := Lib.hid (HB.out.trans (hb5.mono HB.out.size)); replace ga0 := cells_of hb5 ga0 hbw; replace ga1 := cells_of hb5 ga1 hbw; replace ga2 := cells_of hb5 ga2 hbw; replace ga3 := cells_of hb5 ga3 hbw; replace ga4 := cells_of hb5 ga4 hbw; replace gs0 := cells_of hb5 gs0 hbw; replace gs1 := cells_of hb5 gs1 hbw; replace gs2 := cells_of hb5 gs2 hbw; replace gs3 := cells_of hb5 gs3 hbw; replace gs4 := cells_of hb5 gs4 hbw; replace hbw := Nat.lt_of_lt_of_le hbw hb5.size; clear hb5; go_simp) | ((with_reducible refine (HD2.out _).mono ?_); rintro e w5 ⟨rfl, hb5⟩; (try replace hb5 := below_drew' hb5); replace x11 := x11.all hb5; replace x12 := x12.all hb5; replace ho := ho.all hb5; replace HB := Lib.hid (HB.out.trans (hb5.mono HB.out.size)); replace ga0 := cells_of hb5 ga0 hbw; replace ga1 := cells_of hb5 ga1 hbw; replace ga2 := cells_of hb5 ga2 hbw; replace ga3 := cells_of hb5 ga3 hbw; replace ga4 := cells_of hb5 ga4 hbw; replace gs0 := cells_of hb5 gs0 hbw; replace gs1 := cells_of hb5 gs1 hbw; replace gs2 := cells_of hb5 gs2 hbw; replace gs3 := cells_of hb5 gs3 hbw; replace gs4 := cells_of hb5 gs4 hbw; replace hbw := Nat.lt_of_lt_of_le hbw hb5.size; clear hb5; go_simp))
            refine hK.out _ _ (by exact ⟨ga0, ga1, ga2, ga3, ga4, gs0, gs1, gs2, gs3, gs4, x11.cell 0, x11.cell 1, x11.cell 2, x11.cell 3, x11.cell 4, x12.cell 0, x12.cell 1, x12.cell 2, x12.cell 3, x12.cell 4⟩) (fun hHeld => ?_)
            clear hK K
            (try simp only [Act.put, List.getElem_toArray, List.getElem_cons_zero, List.getElem_cons_succ, List.setIfInBounds_toArray, List.set_cons_zero, List.set_cons_succ])
            refine wpAnyH_take (i := 16) (v := ?_) rfl (by kernel_rfl) (by kernel_rfl) (by kernel_rfl) (fun _ _ _ h => h) (Or.inl ⟨by rfl, ?_⟩) (by assumption) ?_
            rotate_left
            · intro w hSw; (try dsimp only at hSw); go_simp; (try with_reducible rfl)
            (try simp only [Act.put, List.getElem_toArray, List.getElem_cons_zero, List.getElem_cons_succ, List.setIfInBounds_toArray, List.set_cons_zero, List.set_cons_succ])
            refine wpAnyH_take (i := 17) (v := ?_) rfl (by kernel_rfl) (by kernel_rfl) (by kernel_rfl) (fun _ _ _ h => h) (Or.inl ⟨by rfl, ?_⟩) (by assumption) ?_
            rotate_left
            · intro w hSw; (try dsimp only at hSw); go_simp; (try with_reducible rfl)
            (try simp only [Act.put, List.getElem_toArray, List.getElem_cons_zero, List.getElem_cons_succ, List.setIfInBounds_toArray, List.set_cons_zero, List.set_cons_succ])
            refine wpAnyH_take (i := 18) (v := ?_) rfl (by kernel_rfl) (by kernel_rfl) (by kernel_rfl) (fun _ _ _ h => h) (Or.inl ⟨by rfl, ?_⟩) (by assumption) ?_
            rotate_left
            · intro w hSw; (try dsimp only at hSw); go_simp; (try with_reducible rfl)
            (try simp only [Act.put, List.getElem_toArray, List.getElem_cons_zero, List.getElem_cons_succ, List.setIfInBounds_toArray, List.set_cons_zero, List.set_cons_succ])
            refine wpAnyH_take (i := 19) (v := ?_) rfl (by kernel_rfl) (by kernel_rfl) (by kernel_rfl) (fun _ _ _ h => h) (Or.inl ⟨by rfl, ?_⟩) (by assumption) ?_
            rotate_left
            · intro w hSw; (try dsimp only at hSw); go_simp; (try with_reducible rfl)
            (try simp only [Act.put, List.getElem_toArray, List.getElem_cons_zero, List.getElem_cons_succ, List.setIfInBounds_toArray, List.set_cons_zero, List.set_cons_succ])
            refine wpAnyH_take (i := 20) (v := ?_) rfl (by kernel_rfl) (by kernel_rfl) (by kernel_rfl) (fun _ _ _ h => h) (Or.inl ⟨by rfl, ?_⟩) (by assumption) ?_
            rotate_left
            · intro w hSw; (try dsimp only at hSw); go_simp; (try with_reducible rfl)
            (try simp only [Act.put, List.getElem_toArray, List.getElem_cons_zero, List.getElem_cons_succ, List.setIfInBounds_toArray, List.set_cons_zero, List.set_cons_succ])
            refine wpAnyH_take (i := 21) (v := ?_) rfl (by kernel_rfl) (by kernel_rfl) (by kernel_rfl) (fun _ _ _ h => h) (Or.inl ⟨by rfl, ?_⟩) (by assumption) ?_
            rotate_left
            · intro w hSw; (try dsimp only at hSw); go_simp; (try with_reducible rfl)
            (try simp only [Act.put, List.getElem_toArray, List.getElem_cons_zero, List.getElem_cons_succ, List.setIfInBounds_toArray, List.set_cons_zero, List.set_cons_succ])
            refine wpAnyH_take (i := 22) (v := ?_) rfl (by kernel_rfl) (by kernel_rfl) (by kernel_rfl) (fun _ _ _ h => h) (Or.inl ⟨by rfl, ?_⟩) (by assumption) ?_
            rotate_left
            · intro w hSw; (try dsimp only at hSw); go_simp; (try with_reducible rfl)
            (try simp only [Act.put, List.getElem_toArray, List.getElem_cons_zero, List.getElem_cons_succ, List.setIfInBounds_toArray, List.set_cons_zero, List.set_cons_succ])
            refine wpAnyH_take (i := 24) (v := ?_) rfl (by kernel_rfl) (by kernel_rfl) (by kernel_rfl) (fun _ _ _ h => h) (Or.inl ⟨by rfl, ?_⟩) (by assumption) ?_
            rotate_left
            · intro w hSw; (try dsimp only at hSw); go_simp; (try with_reducible rfl)
            (try simp only [Act.put, List.getElem_toArray, List.getElem_cons_zero, List.getElem_cons_succ, List.setIfInBounds_toArray, List.set_cons_zero, List.set_cons_succ])
            refine wpAnyH_ready (rs := [23]) (by kernel_rfl) (by simp) ?_
            refine AllReadyH.cons rfl (fun K hK => ?_) AllReadyH.nil
            go_simp
            (first | ((with_reducible refine (HD1.out _).mono ?_); rintro e w5 ⟨rfl, hb5⟩; (try replace hb5 := below_drew' hb5); replace x11 := x11.all hb5; replace x12 := x12.all hb5; replace ho := ho.all hb5; replace HB := Lib.hid (HB.out.trans (hb5.mono HB.out.size)); replace ga0 := cells_of hb5 ga0 hbw; replace ga1 := cells_of hb5 ga1 hbw; replace ga2 := cells_of hb5 ga2 hbw; replace ga3 := cells_of hb5 ga3 hbw; replace ga4 := cells_of hb5 ga4 hbw; replace gs0 := cells_of hb5 gs0 hbw; replace gs1 := cells_of hb5 gs1 hbw; replace gs2 := cells_of hb5 gs2 hbw; replace gs3 := cells_of hb5 gs3 hbw; replace gs4 := cells_of hb5 gs4 hbw; replace hbw := Nat.lt_of_lt_of_le hbw hb5.size; clear hb5; go_simp) | ((with_reducible refine (HD2.out _).mono ?_); rintro e w5 ⟨rfl, hb5⟩; (try replace hb5 := below_drew' hb5); replace x11 := x11.all hb5; replace x12 := x12.all hb5; replace ho := ho.all hb5; replace HB := Lib.hid (HB.out.trans (hb5.mono HB.out.size)); replace ga0 := cells_of hb5 ga0 hbw; replace ga1 := cells_of hb5 ga1 hbw; replace ga2 := cells_of hb5 ga2 hbw; replace ga3 := cells_of hb5 ga3 hbw; replace ga4 := cells_of hb5 ga4 hbw; replace gs0 := cells_of hb5 gs0 hbw; replace gs1 := cells_of hb5 gs1 hbw; replace gs2 := cells_of hb5 gs2 hbw; replace gs3 := cells_of hb5 gs3 hbw; replace gs4 := cells_of hb5 gs4 hbw; replace hbw := Nat.lt_of_lt_of_le hbw hb5.size; clear hb5; go_simp))
            refine hK.out _ _ (by exact ⟨ga0, ga1, ga2, ga3, ga4, gs0, gs1, gs2, gs3, gs4, x11.cell 0, x11.cell 1, x11.cell 2, x11.cell 3, x11.cell 4, x12.cell 0, x12.cell 1, x12.cell 2, x12.cell 3, x12.cell 4⟩) (fun hHeld => ?_)
            clear hK K
            (try simp only [Act.put, List.getElem_toArray, List.getElem_cons_zero, List.getElem_cons_succ, List.setIfInBounds_toArray, List.set_cons_zero, List.set_cons_succ])
            refine wpAnyH_take (i := 25) (v := ?_) rfl (by kernel_rfl) (by kernel_rfl) (by kernel_rfl) (fun _ _ _ h => h) (Or.inl ⟨by rfl, ?_⟩) (by assumption) ?_
            rotate_left
            · intro w hSw; (try dsimp only at hSw); go_simp; (try with_reducible rfl)
            (try simp only [Act.put, List.getElem_toArray, List.getElem_cons_zero, List.getElem_cons_succ, List.setIfInBounds_toArray, List.set_cons_zero, List.set_cons_succ])
            refine wpAnyH_take (i := 26) (v := ?_) rfl (by kernel_rfl) (by kernel_rfl) (by kernel_rfl) (fun _ _ _ h => h) (Or.inl ⟨by rfl, ?_⟩) (by assumption) ?_
            rotate_left
            · intro w hSw; (try dsimp only at hSw); go_simp; (try with_reducible rfl)
            (try simp only [Act.put, List.getElem_toArray, List.getElem_cons_zero, List.getElem_cons_succ, List.setIfInBounds_toArray, List.set_cons_zero, List.set_cons_succ])
            refine wpAnyH_done (by kernel_rfl) ?_ _
            refine NoPanic.normal ?_
            have HYES := Lib.hid (bRows_yes Hs.out (by rw [HD.out]; exact t1) (by rw [HE.out]; exact t2) HACC3.out)
            have hal : acc3.length ≤ 1000 := tri_len HACC3.out HTL.out
            have hzw := HB.out.size
            obtain ⟨_, _, _, hbd⟩ := ho.form
            have e110 := x11.cell 0
            have e111 := x11.cell 1
            have e112 := x11.cell 2
            have e113 := x11.cell 3
            have e114 := x11.cell 4
            have e120 := x12.cell 0
            have e121 := x12.cell 1
            have e122 := x12.cell 2
            have e123 := x12.cell 3
            have e124 := x12.cell 4
            go_wp2_with (refine wpList_pushP rfl _ (.tmp 81) (.tmp 87) 32 rfl Try.underlying32 info_ints w.heap.size acc3.length _ acc3 a.f0 s.f0 rfl rfl rfl ho (by omega) ia0 is0 hzw ?_)
            intro A11 c11 w8 ho8 hg8
            have HB8 := Lib.hid (HB.out.grown hg8 hzw (fun q hq => (hbd q hq).1))
            clear hg8 hbd
            go_wp2
            go_roundw
            case rel => exact ⟨k + 1, A11, c11, acc3 ++ [[a.f0, s.f0]], by omega, by go_num, by rw [List.length_append]; rfl, HYES, by rw [List.length_append]; exact ho8, HB8⟩
            case measure => simp [intOf]; omega
        · have HE : Hid (acc3 ++ aRows ye le (xs.drop (i + 1)) = TOT) := by
            have := HACC3.out
            rw [bRows_none ye le a (by omega), List.nil_append, ← HR2.out] at this
            exact this
          go_wp2
          go_roundw
          case rel => exact ⟨i + 1, A8, c8, acc3, by omega, by go_num, rfl, HE, ho, HB⟩
          case measure => simp [intOf]; omega
    · have HE : acc = TOT := by
        have := HACC.out
        rw [aRows_none ye le (by omega), List.append_nil] at this
        exact this
      subst HE
      go_wp2
      go_ret2
      rw [hRes.out.1, hRes.out.2, HT0.out]
      exact ⟨A6, c6, rfl, ho, HB.out⟩
end Go.Proofs.Ytmdgclbcjjmpiaa
