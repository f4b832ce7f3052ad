/- The walk of the program's FadedApart. No condition. -/
import Derived.Test.YtmdgclbcjjmpiaaPairMath
import Derived.Test.YtmdgclbcjjmpiaaTriad
import Derived.Test.YtmdgclbcjjmpiaaTriadI
import Derived.Test.YtmdgclbcjjmpiaaPushP
import Derived.RegionTactic
import Derived.BigRegion
namespace Go.Proofs.Ytmdgclbcjjmpiaa
open Go.RowKit

theorem isFadeYears_any (x : Int) (w : World) : Calls Try.prog 32 #[.int .i64 x] w fun e w' => e = .returned (.bool (inB x 0 200)) ∧ w = w' := by
  go_enter Try.func32, Try.ntmps32
  go_wp2_with (go_at_call 33; (with_reducible refine (isBetween_any _ _ _ _).mono ?_); rintro e w' ⟨rfl, rfl⟩)
  go_ret
  exact ⟨rfl, rfl⟩
theorem apart_len {acc l T : List (List Int)} (h : acc ++ l = T) (hT : T.length ≤ 1000) : acc.length ≤ 1000 := tri_len h hT
set_option maxRecDepth 100000 in
set_option maxHeartbeats 8000000 in
theorem implFadedApart_any (A : Option Addr) (n c B : Nat) (xs : List ShadeR) (ye le : Int) (w : World) (h : RdF shadeF w B A n c xs) (hB : B ≤ w.heap.size) :
    Calls Try.prog 10 #[.slice A n c, .int .i64 ye, .int .i64 le] w (OutIntss w (apartX xs ye le) (apartOk xs ye le)) := by
  have hn := h.len_lt
  have hcap := h.cap
  have hmax := h.max
  unfold maxLen at hmax
  obtain rfl := h.len
  by_cases h1 : cardB xs = true
  rotate_left
  · have hno := not_false h1
    have H := Lib.hid (apart_no (xs := xs) (ye := ye) (le := le) (.inl hno))
    go_enter Try.func10, Try.ntmps10
    go_wp2_with fail
    refine (implIsShadeCard_any A xs.length c B xs _ h hB).mono ?_
    rintro e w1 ⟨rfl, hb⟩
    go_wp2_with (first | (go_at_call 32; (with_reducible refine (isFadeYears_any _ _).mono ?_); rintro e w' ⟨rfl, rfl⟩) | (go_at_call 33; (with_reducible refine (isBetween_any _ _ _ _).mono ?_); rintro e w' ⟨rfl, rfl⟩))
    go_ret2
    rw [H.out.1, H.out.2]
    exact ⟨none, 0, rfl, Own2.nil _ _, hb⟩
  by_cases h2 : inB ye 0 200 = true
  rotate_left
  · have hno := not_false h2
    have H := Lib.hid (apart_no (xs := xs) (ye := ye) (le := le) (.inr (.inl hno)))
    go_enter Try.func10, Try.ntmps10
    go_wp2_with fail
    refine (implIsShadeCard_any A xs.length c B xs _ h hB).mono ?_
    rintro e w1 ⟨rfl, hb⟩
    go_wp2_with (first | (go_at_call 32; (with_reducible refine (isFadeYears_any _ _).mono ?_); rintro e w' ⟨rfl, rfl⟩) | (go_at_call 33; (with_reducible refine (isBetween_any _ _ _ _).mono ?_); rintro e w' ⟨rfl, rfl⟩))
    go_ret2
    rw [H.out.1, H.out.2]
    exact ⟨none, 0, rfl, Own2.nil _ _, hb⟩
  by_cases h3 : inB le 0 33 = true
  rotate_left
  · have hno := not_false h3
    have H := Lib.hid (apart_no (xs := xs) (ye := ye) (le := le) (.inr (.inr hno)))
    go_enter Try.func10, Try.ntmps10
    go_wp2_with fail
    refine (implIsShadeCard_any A xs.length c B xs _ h hB).mono ?_
    rintro e w1 ⟨rfl, hb⟩
    go_wp2_with (first | (go_at_call 32; (with_reducible refine (isFadeYears_any _ _).mono ?_); rintro e w' ⟨rfl, rfl⟩) | (go_at_call 33; (with_reducible refine (isBetween_any _ _ _ _).mono ?_); rintro e w' ⟨rfl, rfl⟩))
    go_ret2
    rw [H.out.1, H.out.2]
    exact ⟨none, 0, rfl, Own2.nil _ _, hb⟩
  have hy : 0 ≤ ye ∧ ye ≤ 200 := inB_yes h2
  have hle : 0 ≤ le ∧ le ≤ 33 := inB_yes h3
  have hl10 : xs.length ≤ 10 := (cardB_of h1).1
  have hRes := Lib.hid (apart_yes h1 h2 h3)
  have HC1 := Lib.hid h1
  have HSH : Hid (∀ (k : Nat) (a : ShadeR), xs[k]? = some a → Fine a ∧ (1 ≤ a.f4 ∧ a.f4 ≤ 8)) := fun k a ha => ⟨card_fine h1 ha, (shadeB_parts ((cardB_of h1).2 k a (List.getElem?_eq_some_iff.1 ha).1 ha).1).2.2.2.2⟩
  obtain ⟨TOT, hTOT⟩ : ∃ TOT, aRows ye le xs = TOT := ⟨_, rfl⟩
  have hTl : TOT.length ≤ 1000 := by
    rw [← hTOT]
    have h2 : xs.length * xs.length ≤ 10 * 10 := Nat.mul_le_mul hl10 hl10
    exact Nat.le_trans (aRows_len ye le xs xs.length (Nat.le_refl _)).1 (by omega)
  have HTL := Lib.hid hTl
  have HT0 : Hid (aRows ye le xs = TOT) := hTOT
  clear hTl hTOT
  go_enter Try.func10, Try.ntmps10
  go_wp2_with fail
  refine (implIsShadeCard_any A xs.length c B xs _ h hB).mono ?_
  rintro e w1 ⟨rfl, hb⟩
  go_wp2_with (first | (go_at_call 32; (with_reducible refine (isFadeYears_any _ _).mono ?_); rintro e w' ⟨rfl, rfl⟩) | (go_at_call 33; (with_reducible refine (isBetween_any _ _ _ _).mono ?_); rintro e w' ⟨rfl, rfl⟩))
  clear h1 h2 h3
  have HB1 := Lib.hid hb
  clear hb
  go_loopw [8, 28] (fun out i wr => ∃ (k : Nat) (A' : Option Addr) (c' : Nat) (acc : List (List Int)), k ≤ xs.length ∧ i = .int .i64 k ∧ out = .slice A' acc.length c' ∧ Hid (acc ++ aRows ye le (xs.drop k) = TOT) ∧
      Own2 wr w.heap.size (.slice A' acc.length c') acc ∧ Hid (Below w.heap.size w wr)) (fun _ i _ => xs.length - (intOf i).toNat)
  case atStart => exact ⟨0, none, 0, [], Nat.zero_le _, rfl, rfl, HT0, Own2.nil _ _, HB1⟩
  case round =>
    obtain ⟨i, A6, c6, acc, hi, rfl, rfl, HACC, ho, HB⟩ := hrel
    by_cases hlt : i < xs.length
    · have hRi := h.all HB.out hB
      have hzi := HB.out.size
      obtain ⟨ba, offa, a, ea, hba, oka, HXa, ca0, ca1, ca2, ca3, ca4⟩ := ShadeR_at (F := shadeF) rfl (fun _ => rfl) (fun _ => rfl) hRi hlt
      obtain ⟨⟨ha1, ha2⟩, ha4⟩ := HSH.out i a HXa.out
      have ia0 : I64 a.f0 := oka.1
      have x8 := Blk.new wr #[.int .i64 a.f0, .string a.f1, .int .i64 a.f2, .int .i64 a.f3, .int .i64 a.f4] 30
      have o1 := ho.all ((Below.refl wr.heap.size wr).alloc (Nat.le_refl _) (.cells #[.int .i64 a.f0, .string a.f1, .int .i64 a.f2, .int .i64 a.f3, .int .i64 a.f4] 30))
      have HB2 := Lib.hid (HB.out.alloc hzi (.cells #[.int .i64 a.f0, .string a.f1, .int .i64 a.f2, .int .i64 a.f3, .int .i64 a.f4] 30))
      have hRi2 := hRi.alloc (by omega) (.cells #[.int .i64 a.f0, .string a.f1, .int .i64 a.f2, .int .i64 a.f3, .int .i64 a.f4] 30)
      have hi1 : i + 1 ≤ xs.length := hlt
      have hl0 : 0 < xs.length := by omega
      have HA1 : Hid (acc ++ (bRows ye le a (xs.drop (i + 1)) ++ aRows ye le (xs.drop (i + 1))) = TOT) := by rw [← aRows_at HXa.out]; exact HACC.out
      clear ho HB HXa
      subst ea
      go_wp2_with (refine wpList_rest rfl (.tmp 33) (.tmp 35) rfl _ B xs.length c (i + 1) xs _ rfl rfl ?hq hi1 hl0 hRi2 ?_)
      case hq => omega
      intro A9 hR9
      have HFZ : Hid (∀ (k : Nat) (b : ShadeR), (xs.drop (i + 1))[k]? = some b → Fine b ∧ (1 ≤ b.f4 ∧ b.f4 ≤ 8)) := fun k b hk => HSH.out (i + 1 + k) b (by rwa [List.getElem?_drop] at hk)
      obtain ⟨R2, hR2⟩ : ∃ R2, aRows ye le (xs.drop (i + 1)) = R2 := ⟨_, rfl⟩
      rw [hR2] at HA1
      have HR2 := Lib.hid hR2
      obtain ⟨zs, hzs⟩ : ∃ zs, xs.drop (i + 1) = zs := ⟨_, rfl⟩
      rw [hzs] at hR9 HA1 HFZ
      have hn9 : xs.length - (i + 1) ≤ 9 := by omega
      have hc9 : c - (i + 1) ≤ c := by omega
      clear hR2 hzs HACC hRi hRi2 ca0 ca1 ca2 ca3 ca4 hl0
      generalize xs.length - (i + 1) = n10 at *
      generalize c - (i + 1) = c10 at *
      have hBw : B ≤ wr.heap.size := by omega
      generalize wr.alloc (.cells #[.int .i64 a.f0, .string a.f1, .int .i64 a.f2, .int .i64 a.f3, .int .i64 a.f4] 30) = W2 at *
      generalize wr.heap.size = P at *
      go_wp2
      go_loopw [8, 38] (fun out jj wr => ∃ (k : Nat) (A' : Option Addr) (c' : Nat) (acc : List (List Int)), k ≤ n10 ∧ jj = .int .i64 k ∧ out = .slice A' acc.length c' ∧ Hid (acc ++ (bRows ye le a (zs.drop k) ++ R2) = TOT) ∧
          Own2 wr w.heap.size (.slice A' acc.length c') acc ∧ Hid (Below w.heap.size w wr) ∧ Blk wr P 30 #[.int .i64 a.f0, .string a.f1, .int .i64 a.f2, .int .i64 a.f3, .int .i64 a.f4] ∧ RdF shadeF wr B A9 n10 c10 zs) (fun _ jj _ => n10 - (intOf jj).toNat)
      case atStart => exact ⟨0, A6, c6, acc, Nat.zero_le _, rfl, rfl, HA1, o1, HB2, x8, hR9⟩
      case round =>
        obtain ⟨k, A8, c8, acc3, hk, rfl, rfl, HACC3, ho, HB, x8, hRz⟩ := hrel
        have hzq := HB.out.size
        by_cases hlt3 : k < n10
        · obtain ⟨bs, offs, s, es, hbs, oks, HXs, cs0, cs1, cs2, cs3, cs4⟩ := ShadeR_at (F := shadeF) rfl (fun _ => rfl) (fun _ => rfl) hRz hlt3
          subst es
          obtain ⟨⟨hs1, hs2⟩, hs4⟩ := HFZ.out k s HXs.out
          have is0 : I64 s.f0 := oks.1
          have x13 := Blk.new wr #[.int .i64 s.f0, .string s.f1, .int .i64 s.f2, .int .i64 s.f3, .int .i64 s.f4] 30
          replace x8 := x8.alloc (.cells #[.int .i64 s.f0, .string s.f1, .int .i64 s.f2, .int .i64 s.f3, .int .i64 s.f4] 30)
          replace ho := ho.all ((Below.refl wr.heap.size wr).alloc (Nat.le_refl _) (.cells #[.int .i64 s.f0, .string s.f1, .int .i64 s.f2, .int .i64 s.f3, .int .i64 s.f4] 30))
          replace HB := Lib.hid (HB.out.alloc hzq (.cells #[.int .i64 s.f0, .string s.f1, .int .i64 s.f2, .int .i64 s.f3, .int .i64 s.f4] 30))
          have hBz : B ≤ (wr.alloc (.cells #[.int .i64 s.f0, .string s.f1, .int .i64 s.f2, .int .i64 s.f3, .int .i64 s.f4] 30)).heap.size := by simp; omega
          replace hRz := hRz.alloc (by omega) (.cells #[.int .i64 s.f0, .string s.f1, .int .i64 s.f2, .int .i64 s.f3, .int .i64 s.f4] 30)
          have hal : acc3.length ≤ 1000 := tri_len HACC3.out HTL.out
          have hfa : Deep (fadD ye a) := fad_deep ha2 ha4 hy
          have hfs : Deep (fadD ye s) := fad_deep hs2 hs4 hy
          obtain ⟨D, HD⟩ : ∃ D, Hid (nowD a s = D) := ⟨_, rfl⟩
          obtain ⟨E, HE⟩ : ∃ E, Hid (thenD ye a s = E) := ⟨_, rfl⟩
          have hdist : ∀ w, Calls Try.prog 25 #[.agg #[.int .i64 a.f0, .string a.f1, .int .i64 a.f2, .int .i64 a.f3, .int .i64 a.f4], .agg #[.int .i64 s.f0, .string s.f1, .int .i64 s.f2, .int .i64 s.f3, .int .i64 s.f4]] w (Out w (.int .i64 D)) := fun w => HD.out ▸ distanceOf_any a s w ha1 hs1 ha2 hs2
          have hdist2 : ∀ w, Calls Try.prog 25 #[.agg #[.int .i64 a.f0, .string a.f1, .int .i64 a.f2, .int .i64 (max (a.f3 - ye / (5 * a.f4)) 0), .int .i64 a.f4], .agg #[.int .i64 s.f0, .string s.f1, .int .i64 s.f2, .int .i64 (max (s.f3 - ye / (5 * s.f4)) 0), .int .i64 s.f4]] w (Out w (.int .i64 E)) := fun w => HE.out ▸ distanceOf_any (⟨a.f0, a.f1, a.f2, fadD ye a, a.f4⟩ : ShadeR) (⟨s.f0, s.f1, s.f2, fadD ye s, s.f4⟩ : ShadeR) w ha1 hs1 hfa hfs
          have HD1 := Lib.hid hdist
          have HD2 := Lib.hid hdist2
          clear hdist hdist2
          go_wp2
          clear cs0 cs1 cs2 cs3 cs4
          generalize wr.alloc (.cells #[.int .i64 s.f0, .string s.f1, .int .i64 s.f2, .int .i64 s.f3, .int .i64 s.f4] 30) = W4 at *
          generalize wr.heap.size = U at *
          by_cases t1 : le ≤ D
          rotate_left
          · refine wp_region_noPanic ?_
            refine wp_region_held_drew (S := (fun w' => w'.cell? ⟨P, 0, none⟩ = some (.int .i64 a.f0) ∧ w'.cell? ⟨P, 1, none⟩ = some (.string a.f1) ∧ w'.cell? ⟨P, 2, none⟩ = some (.int .i64 a.f2) ∧ w'.cell? ⟨P, 3, none⟩ = some (.int .i64 a.f3) ∧ w'.cell? ⟨P, 4, none⟩ = some (.int .i64 a.f4) ∧ w'.cell? ⟨U, 0, none⟩ = some (.int .i64 s.f0) ∧ w'.cell? ⟨U, 1, none⟩ = some (.string s.f1) ∧ w'.cell? ⟨U, 2, none⟩ = some (.int .i64 s.f2) ∧ w'.cell? ⟨U, 3, none⟩ = some (.int .i64 s.f3) ∧ w'.cell? ⟨U, 4, none⟩ = some (.int .i64 s.f4))) (by kernel_rfl) (by exact ⟨x8.cell 0, x8.cell 1, x8.cell 2, x8.cell 3, x8.cell 4, x13.cell 0, x13.cell 1, x13.cell 2, x13.cell 3, x13.cell 4⟩) (fun hHeld => ?_)
            refine wpAnyH_take (i := 0) (v := ?_) rfl (by kernel_rfl) (by kernel_rfl) (by kernel_rfl) (fun _ _ _ h => h) (Or.inl ⟨by rfl, ?_⟩) (by assumption) ?_
            rotate_left
            · intro w hSw; (try dsimp only at hSw); go_simp; (try with_reducible rfl)
            (try simp only [Act.put, List.getElem_toArray, List.getElem_cons_zero, List.setIfInBounds_toArray, List.set_cons_zero, List.set_cons_succ])
            refine wpAnyH_take (i := 1) (v := ?_) rfl (by kernel_rfl) (by kernel_rfl) (by kernel_rfl) (fun _ _ _ h => h) (Or.inl ⟨by rfl, ?_⟩) (by assumption) ?_
            rotate_left
            · intro w hSw; (try dsimp only at hSw); go_simp; (try with_reducible rfl)
            (try simp only [Act.put, List.getElem_toArray, List.getElem_cons_zero, List.getElem_cons_succ, List.setIfInBounds_toArray, List.set_cons_zero, List.set_cons_succ])
            refine wpAnyH_take (i := 3) (v := ?_) rfl (by kernel_rfl) (by kernel_rfl) (by kernel_rfl) (fun _ _ _ h => h) (Or.inl ⟨by rfl, ?_⟩) (by assumption) ?_
            rotate_left
            · intro w hSw; (try dsimp only at hSw); go_simp; (try with_reducible rfl)
            (try simp only [Act.put, List.getElem_toArray, List.getElem_cons_zero, List.getElem_cons_succ, List.setIfInBounds_toArray, List.set_cons_zero, List.set_cons_succ])
            refine wpAnyH_ready (rs := [2]) (by kernel_rfl) (by simp) ?_
            refine AllReadyH.cons rfl (fun K hK => ?_) AllReadyH.nil
            go_simp
            ((with_reducible refine (HD1.out _).mono ?_); rintro e w5 ⟨rfl, hb5⟩; (try replace hb5 := below_drew' hb5); replace x8 := x8.all hb5; replace x13 := x13.all hb5; replace ho := ho.all hb5; replace hRz := hRz.all hb5 hBz; replace HB := Lib.hid (HB.out.trans (hb5.mono HB.out.size)); replace hBz := Nat.le_trans hBz hb5.size; clear hb5)
            refine hK.out _ _ (by exact ⟨x8.cell 0, x8.cell 1, x8.cell 2, x8.cell 3, x8.cell 4, x13.cell 0, x13.cell 1, x13.cell 2, x13.cell 3, x13.cell 4⟩) (fun hHeld => ?_)
            clear hK K
            (try simp only [Act.put, List.getElem_toArray, List.getElem_cons_zero, List.getElem_cons_succ, List.setIfInBounds_toArray, List.set_cons_zero, List.set_cons_succ])
            refine wpAnyH_take (i := 4) (v := ?_) rfl (by kernel_rfl) (by kernel_rfl) (by kernel_rfl) (fun _ _ _ h => h) (Or.inl ⟨by rfl, ?_⟩) (by assumption) ?_
            rotate_left
            · intro w hSw; (try dsimp only at hSw); go_simp; (try with_reducible rfl)
            (try simp only [Act.put, List.getElem_toArray, List.getElem_cons_zero, List.getElem_cons_succ, List.setIfInBounds_toArray, List.set_cons_zero, List.set_cons_succ])
            refine wpAnyH_take (i := 5) (v := ?_) rfl (by kernel_rfl) (by kernel_rfl) (by kernel_rfl) (fun _ _ _ h => h) (Or.inl ⟨by rfl, ?_⟩) (by assumption) ?_
            rotate_left
            · intro w hSw; (try dsimp only at hSw); go_simp; (try with_reducible rfl)
            (try simp only [Act.put, List.getElem_toArray, List.getElem_cons_zero, List.getElem_cons_succ, List.setIfInBounds_toArray, List.set_cons_zero, List.set_cons_succ])
            refine wpAnyH_take (i := 6) (v := undef) rfl (by kernel_rfl) (by kernel_rfl) (by kernel_rfl) (fun _ _ _ h => h) (Or.inr ⟨by rfl, rfl⟩) (by assumption) ?_
            (try simp only [Act.put, List.getElem_toArray, List.getElem_cons_zero, List.getElem_cons_succ, List.setIfInBounds_toArray, List.set_cons_zero, List.set_cons_succ])
            refine wpAnyH_take (i := 7) (v := undef) rfl (by kernel_rfl) (by kernel_rfl) (by kernel_rfl) (fun _ _ _ h => h) (Or.inr ⟨by rfl, rfl⟩) (by assumption) ?_
            (try simp only [Act.put, List.getElem_toArray, List.getElem_cons_zero, List.getElem_cons_succ, List.setIfInBounds_toArray, List.set_cons_zero, List.set_cons_succ])
            refine wpAnyH_take (i := 8) (v := undef) rfl (by kernel_rfl) (by kernel_rfl) (by kernel_rfl) (fun _ _ _ h => h) (Or.inr ⟨by rfl, rfl⟩) (by assumption) ?_
            (try simp only [Act.put, List.getElem_toArray, List.getElem_cons_zero, List.getElem_cons_succ, List.setIfInBounds_toArray, List.set_cons_zero, List.set_cons_succ])
            refine wpAnyH_take (i := 9) (v := undef) rfl (by kernel_rfl) (by kernel_rfl) (by kernel_rfl) (fun _ _ _ h => h) (Or.inr ⟨by rfl, rfl⟩) (by assumption) ?_
            (try simp only [Act.put, List.getElem_toArray, List.getElem_cons_zero, List.getElem_cons_succ, List.setIfInBounds_toArray, List.set_cons_zero, List.set_cons_succ])
            refine wpAnyH_take (i := 10) (v := undef) rfl (by kernel_rfl) (by kernel_rfl) (by kernel_rfl) (fun _ _ _ h => h) (Or.inr ⟨by rfl, rfl⟩) (by assumption) ?_
            (try simp only [Act.put, List.getElem_toArray, List.getElem_cons_zero, List.getElem_cons_succ, List.setIfInBounds_toArray, List.set_cons_zero, List.set_cons_succ])
            refine wpAnyH_take (i := 11) (v := undef) rfl (by kernel_rfl) (by kernel_rfl) (by kernel_rfl) (fun _ _ _ h => h) (Or.inr ⟨by rfl, rfl⟩) (by assumption) ?_
            (try simp only [Act.put, List.getElem_toArray, List.getElem_cons_zero, List.getElem_cons_succ, List.setIfInBounds_toArray, List.set_cons_zero, List.set_cons_succ])
            refine wpAnyH_take (i := 12) (v := undef) rfl (by kernel_rfl) (by kernel_rfl) (by kernel_rfl) (fun _ _ _ h => h) (Or.inr ⟨by rfl, rfl⟩) (by assumption) ?_
            (try simp only [Act.put, List.getElem_toArray, List.getElem_cons_zero, List.getElem_cons_succ, List.setIfInBounds_toArray, List.set_cons_zero, List.set_cons_succ])
            refine wpAnyH_take (i := 13) (v := undef) rfl (by kernel_rfl) (by kernel_rfl) (by kernel_rfl) (fun _ _ _ h => h) (Or.inr ⟨by rfl, rfl⟩) (by assumption) ?_
            (try simp only [Act.put, List.getElem_toArray, List.getElem_cons_zero, List.getElem_cons_succ, List.setIfInBounds_toArray, List.set_cons_zero, List.set_cons_succ])
            refine wpAnyH_take (i := 14) (v := undef) rfl (by kernel_rfl) (by kernel_rfl) (by kernel_rfl) (fun _ _ _ h => h) (Or.inr ⟨by rfl, rfl⟩) (by assumption) ?_
            (try simp only [Act.put, List.getElem_toArray, List.getElem_cons_zero, List.getElem_cons_succ, List.setIfInBounds_toArray, List.set_cons_zero, List.set_cons_succ])
            refine wpAnyH_take (i := 15) (v := ?_) rfl (by kernel_rfl) (by kernel_rfl) (by kernel_rfl) (fun _ _ _ h => h) (Or.inl ⟨by rfl, ?_⟩) (by assumption) ?_
            rotate_left
            · intro w hSw; (try dsimp only at hSw); go_simp; (try with_reducible rfl)
            (try simp only [Act.put, List.getElem_toArray, List.getElem_cons_zero, List.getElem_cons_succ, List.setIfInBounds_toArray, List.set_cons_zero, List.set_cons_succ])
            refine wpAnyH_done (by kernel_rfl) ?_ _
            refine NoPanic.normal ?_
            go_wp2_with fail
            go_roundw
            case rel => exact ⟨k + 1, A8, c8, acc3, by omega, by go_num, rfl, Lib.hid (bRows_no HXs.out (fun hh => t1 (HD.out ▸ hh.1)) HACC3.out), ho, HB, x8, hRz⟩
            case measure => simp [intOf]; omega
          by_cases t2 : E < le
          rotate_left
          · refine wp_region_noPanic ?_
            refine wp_region_held_drew (S := (fun w' => w'.cell? ⟨P, 0, none⟩ = some (.int .i64 a.f0) ∧ w'.cell? ⟨P, 1, none⟩ = some (.string a.f1) ∧ w'.cell? ⟨P, 2, none⟩ = some (.int .i64 a.f2) ∧ w'.cell? ⟨P, 3, none⟩ = some (.int .i64 a.f3) ∧ w'.cell? ⟨P, 4, none⟩ = some (.int .i64 a.f4) ∧ w'.cell? ⟨U, 0, none⟩ = some (.int .i64 s.f0) ∧ w'.cell? ⟨U, 1, none⟩ = some (.string s.f1) ∧ w'.cell? ⟨U, 2, none⟩ = some (.int .i64 s.f2) ∧ w'.cell? ⟨U, 3, none⟩ = some (.int .i64 s.f3) ∧ w'.cell? ⟨U, 4, none⟩ = some (.int .i64 s.f4))) (by kernel_rfl) (by exact ⟨x8.cell 0, x8.cell 1, x8.cell 2, x8.cell 3, x8.cell 4, x13.cell 0, x13.cell 1, x13.cell 2, x13.cell 3, x13.cell 4⟩) (fun hHeld => ?_)
            refine wpAnyH_take (i := 0) (v := ?_) rfl (by kernel_rfl) (by kernel_rfl) (by kernel_rfl) (fun _ _ _ h => h) (Or.inl ⟨by rfl, ?_⟩) (by assumption) ?_
            rotate_left
            · intro w hSw; (try dsimp only at hSw); go_simp; (try with_reducible rfl)
            (try simp only [Act.put, List.getElem_toArray, List.getElem_cons_zero, List.setIfInBounds_toArray, List.set_cons_zero, List.set_cons_succ])
            refine wpAnyH_take (i := 1) (v := ?_) rfl (by kernel_rfl) (by kernel_rfl) (by kernel_rfl) (fun _ _ _ h => h) (Or.inl ⟨by rfl, ?_⟩) (by assumption) ?_
            rotate_left
            · intro w hSw; (try dsimp only at hSw); go_simp; (try with_reducible rfl)
            (try simp only [Act.put, List.getElem_toArray, List.getElem_cons_zero, List.getElem_cons_succ, List.setIfInBounds_toArray, List.set_cons_zero, List.set_cons_succ])
            refine wpAnyH_take (i := 3) (v := ?_) rfl (by kernel_rfl) (by kernel_rfl) (by kernel_rfl) (fun _ _ _ h => h) (Or.inl ⟨by rfl, ?_⟩) (by assumption) ?_
            rotate_left
            · intro w hSw; (try dsimp only at hSw); go_simp; (try with_reducible rfl)
            (try simp only [Act.put, List.getElem_toArray, List.getElem_cons_zero, List.getElem_cons_succ, List.setIfInBounds_toArray, List.set_cons_zero, List.set_cons_succ])
            refine wpAnyH_ready (rs := [2]) (by kernel_rfl) (by simp) ?_
            refine AllReadyH.cons rfl (fun K hK => ?_) AllReadyH.nil
            go_simp
            (first | ((with_reducible refine (HD1.out _).mono ?_); rintro e w5 ⟨rfl, hb5⟩; (try replace hb5 := below_drew' hb5); replace x8 := x8.all hb5; replace x13 := x13.all hb5; replace ho := ho.all hb5; replace hRz := hRz.all hb5 hBz; replace HB := Lib.hid (HB.out.trans (hb5.mono HB.out.size)); replace hBz := Nat.le_trans hBz hb5.size; clear hb5) | ((with_reducible refine (HD2.out _).mono ?_); rintro e w5 ⟨rfl, hb5⟩; (try replace hb5 := below_drew' hb5); replace x8 := x8.all hb5; replace x13 := x13.all hb5; replace ho := ho.all hb5; replace hRz := hRz.all hb5 hBz; replace HB := Lib.hid (HB.out.trans (hb5.mono HB.out.size)); replace hBz := Nat.le_trans hBz hb5.size; clear hb5) | ((with_reducible refine (fadedBy_any a ye _ ha2 ha4 hy).mono ?_); rintro e w5 ⟨rfl, hb5⟩; (try replace hb5 := below_drew' hb5); replace x8 := x8.all hb5; replace x13 := x13.all hb5; replace ho := ho.all hb5; replace hRz := hRz.all hb5 hBz; replace HB := Lib.hid (HB.out.trans (hb5.mono HB.out.size)); replace hBz := Nat.le_trans hBz hb5.size; clear hb5) | ((with_reducible refine (fadedBy_any s ye _ hs2 hs4 hy).mono ?_); rintro e w5 ⟨rfl, hb5⟩; (try replace hb5 := below_drew' hb5); replace x8 := x8.all hb5; replace x13 := x13.all hb5; replace ho := ho.all hb5; replace hRz := hRz.all hb5 hBz; replace HB := Lib.hid (HB.out.trans (hb5.mono HB.out.size)); replace hBz := Nat.le_trans hBz hb5.size; clear hb5))
            refine hK.out _ _ (by exact ⟨x8.cell 0, x8.cell 1, x8.cell 2, x8.cell 3, x8.cell 4, x13.cell 0, x13.cell 1, x13.cell 2, x13.cell 3, x13.cell 4⟩) (fun hHeld => ?_)
            clear hK K
            (try simp only [Act.put, List.getElem_toArray, List.getElem_cons_zero, List.getElem_cons_succ, List.setIfInBounds_toArray, List.set_cons_zero, List.set_cons_succ])
            refine wpAnyH_take (i := 4) (v := ?_) rfl (by kernel_rfl) (by kernel_rfl) (by kernel_rfl) (fun _ _ _ h => h) (Or.inl ⟨by rfl, ?_⟩) (by assumption) ?_
            rotate_left
            · intro w hSw; (try dsimp only at hSw); go_simp; (try with_reducible rfl)
            (try simp only [Act.put, List.getElem_toArray, List.getElem_cons_zero, List.getElem_cons_succ, List.setIfInBounds_toArray, List.set_cons_zero, List.set_cons_succ])
            refine wpAnyH_take (i := 5) (v := ?_) rfl (by kernel_rfl) (by kernel_rfl) (by kernel_rfl) (fun _ _ _ h => h) (Or.inl ⟨by rfl, ?_⟩) (by assumption) ?_
            rotate_left
            · intro w hSw; (try dsimp only at hSw); go_simp; (try with_reducible rfl)
            (try simp only [Act.put, List.getElem_toArray, List.getElem_cons_zero, List.getElem_cons_succ, List.setIfInBounds_toArray, List.set_cons_zero, List.set_cons_succ])
            refine wpAnyH_take (i := 6) (v := ?_) rfl (by kernel_rfl) (by kernel_rfl) (by kernel_rfl) (fun _ _ _ h => h) (Or.inl ⟨by rfl, ?_⟩) (by assumption) ?_
            rotate_left
            · intro w hSw; (try dsimp only at hSw); go_simp; (try with_reducible rfl)
            (try simp only [Act.put, List.getElem_toArray, List.getElem_cons_zero, List.getElem_cons_succ, List.setIfInBounds_toArray, List.set_cons_zero, List.set_cons_succ])
            refine wpAnyH_take (i := 7) (v := ?_) rfl (by kernel_rfl) (by kernel_rfl) (by kernel_rfl) (fun _ _ _ h => h) (Or.inl ⟨by rfl, ?_⟩) (by assumption) ?_
            rotate_left
            · intro w hSw; (try dsimp only at hSw); go_simp; (try with_reducible rfl)
            (try simp only [Act.put, List.getElem_toArray, List.getElem_cons_zero, List.getElem_cons_succ, List.setIfInBounds_toArray, List.set_cons_zero, List.set_cons_succ])
            refine wpAnyH_take (i := 9) (v := ?_) rfl (by kernel_rfl) (by kernel_rfl) (by kernel_rfl) (fun _ _ _ h => h) (Or.inl ⟨by rfl, ?_⟩) (by assumption) ?_
            rotate_left
            · intro w hSw; (try dsimp only at hSw); go_simp; (try with_reducible rfl)
            (try simp only [Act.put, List.getElem_toArray, List.getElem_cons_zero, List.getElem_cons_succ, List.setIfInBounds_toArray, List.set_cons_zero, List.set_cons_succ])
            refine wpAnyH_take (i := 10) (v := ?_) rfl (by kernel_rfl) (by kernel_rfl) (by kernel_rfl) (fun _ _ _ h => h) (Or.inl ⟨by rfl, ?_⟩) (by assumption) ?_
            rotate_left
            · intro w hSw; (try dsimp only at hSw); go_simp; (try with_reducible rfl)
            (try simp only [Act.put, List.getElem_toArray, List.getElem_cons_zero, List.getElem_cons_succ, List.setIfInBounds_toArray, List.set_cons_zero, List.set_cons_succ])
            refine wpAnyH_take (i := 13) (v := ?_) rfl (by kernel_rfl) (by kernel_rfl) (by kernel_rfl) (fun _ _ _ h => h) (Or.inl ⟨by rfl, ?_⟩) (by assumption) ?_
            rotate_left
            · intro w hSw; (try dsimp only at hSw); go_simp; (try with_reducible rfl)
            (try simp only [Act.put, List.getElem_toArray, List.getElem_cons_zero, List.getElem_cons_succ, List.setIfInBounds_toArray, List.set_cons_zero, List.set_cons_succ])
            refine wpAnyH_ready (rs := [8]) (by kernel_rfl) (by simp) ?_
            refine AllReadyH.cons rfl (fun K hK => ?_) AllReadyH.nil
            go_simp
            (first | ((with_reducible refine (HD1.out _).mono ?_); rintro e w5 ⟨rfl, hb5⟩; (try replace hb5 := below_drew' hb5); replace x8 := x8.all hb5; replace x13 := x13.all hb5; replace ho := ho.all hb5; replace hRz := hRz.all hb5 hBz; replace HB := Lib.hid (HB.out.trans (hb5.mono HB.out.size)); replace hBz := Nat.le_trans hBz hb5.size; clear hb5) | ((with_reducible refine (HD2.out _).mono ?_); rintro e w5 ⟨rfl, hb5⟩; (try replace hb5 := below_drew' hb5); replace x8 := x8.all hb5; replace x13 := x13.all hb5; replace ho := ho.all hb5; replace hRz := hRz.all hb5 hBz; replace HB := Lib.hid (HB.out.trans (hb5.mono HB.out.size)); replace hBz := Nat.le_trans hBz hb5.size; clear hb5) | ((with_reducible refine (fadedBy_any a ye _ ha2 ha4 hy).mono ?_); rintro e w5 ⟨rfl, hb5⟩; (try replace hb5 := below_drew' hb5); replace x8 := x8.all hb5; replace x13 := x13.all hb5; replace ho := ho.all hb5; replace hRz := hRz.all hb5 hBz; replace HB := Lib.hid (HB.out.trans (hb5.mono HB.out.size)); replace hBz := Nat.le_trans hBz hb5.size; clear hb5) | ((with_reducible refine (fadedBy_any s ye _ hs2 hs4 hy).mono ?_); rintro e w5 ⟨rfl, hb5⟩; (try replace hb5 := below_drew' hb5); replace x8 := x8.all hb5; replace x13 := x13.all hb5; replace ho := ho.all hb5; replace hRz := hRz.all hb5 hBz; replace HB := Lib.hid (HB.out.trans (hb5.mono HB.out.size)); replace hBz := Nat.le_trans hBz hb5.size; clear hb5))
            refine hK.out _ _ (by exact ⟨x8.cell 0, x8.cell 1, x8.cell 2, x8.cell 3, x8.cell 4, x13.cell 0, x13.cell 1, x13.cell 2, x13.cell 3, x13.cell 4⟩) (fun hHeld => ?_)
            clear hK K
            (try simp only [Act.put, List.getElem_toArray, List.getElem_cons_zero, List.getElem_cons_succ, List.setIfInBounds_toArray, List.set_cons_zero, List.set_cons_succ])
            refine wpAnyH_ready (rs := [11]) (by kernel_rfl) (by simp) ?_
            refine AllReadyH.cons rfl (fun K hK => ?_) AllReadyH.nil
            go_simp
            (first | ((with_reducible refine (HD1.out _).mono ?_); rintro e w5 ⟨rfl, hb5⟩; (try replace hb5 := below_drew' hb5); replace x8 := x8.all hb5; replace x13 := x13.all hb5; replace ho := ho.all hb5; replace hRz := hRz.all hb5 hBz; replace HB := Lib.hid (HB.out.trans (hb5.mono HB.out.size)); replace hBz := Nat.le_trans hBz hb5.size; clear hb5) | ((with_reducible refine (HD2.out _).mono ?_); rintro e w5 ⟨rfl, hb5⟩; (try replace hb5 := below_drew' hb5); replace x8 := x8.all hb5; replace x13 := x13.all hb5; replace ho := ho.all hb5; replace hRz := hRz.all hb5 hBz; replace HB := Lib.hid (HB.out.trans (hb5.mono HB.out.size)); replace hBz := Nat.le_trans hBz hb5.size; clear hb5) | ((with_reducible refine (fadedBy_any a ye _ ha2 ha4 hy).mono ?_); rintro e w5 ⟨rfl, hb5⟩; (try replace hb5 := below_drew' hb5); replace x8 := x8.all hb5; replace x13 := x13.all hb5; replace ho := ho.all hb5; replace hRz := hRz.all hb5 hBz; replace HB := Lib.hid (HB.out.trans (hb5.mono HB.out.size)); replace hBz := Nat.le_trans hBz hb5.size; clear hb5) | ((with_reducible refine (fadedBy_any s ye _ hs2 hs4 hy).mono ?_); rintro e w5 ⟨rfl, hb5⟩; (try replace hb5 := below_drew' hb5); replace x8 := x8.all hb5; replace x13 := x13.all hb5; replace ho := ho.all hb5; replace hRz := hRz.all hb5 hBz; replace HB := Lib.hid (HB.out.trans (hb5.mono HB.out.size)); replace hBz := Nat.le_trans hBz hb5.size; clear hb5))
            refine hK.out _ _ (by exact ⟨x8.cell 0, x8.cell 1, x8.cell 2, x8.cell 3, x8.cell 4, x13.cell 0, x13.cell 1, x13.cell 2, x13.cell 3, x13.cell 4⟩) (fun hHeld => ?_)
            clear hK K
            (try simp only [Act.put, List.getElem_toArray, List.getElem_cons_zero, List.getElem_cons_succ, List.setIfInBounds_toArray, List.set_cons_zero, List.set_cons_succ])
            refine wpAnyH_ready (rs := [12]) (by kernel_rfl) (by simp) ?_
            refine AllReadyH.cons rfl (fun K hK => ?_) AllReadyH.nil
            go_simp
            (first | ((with_reducible refine (HD1.out _).mono ?_); rintro e w5 ⟨rfl, hb5⟩; (try replace hb5 := below_drew' hb5); replace x8 := x8.all hb5; replace x13 := x13.all hb5; replace ho := ho.all hb5; replace hRz := hRz.all hb5 hBz; replace HB := Lib.hid (HB.out.trans (hb5.mono HB.out.size)); replace hBz := Nat.le_trans hBz hb5.size; clear hb5) | ((with_reducible refine (HD2.out _).mono ?_); rintro e w5 ⟨rfl, hb5⟩; (try replace hb5 := below_drew' hb5); replace x8 := x8.all hb5; replace x13 := x13.all hb5; replace ho := ho.all hb5; replace hRz := hRz.all hb5 hBz; replace HB := Lib.hid (HB.out.trans (hb5.mono HB.out.size)); replace hBz := Nat.le_trans hBz hb5.size; clear hb5) | ((with_reducible refine (fadedBy_any a ye _ ha2 ha4 hy).mono ?_); rintro e w5 ⟨rfl, hb5⟩; (try replace hb5 := below_drew' hb5); replace x8 := x8.all hb5; replace x13 := x13.all hb5; replace ho := ho.all hb5; replace hRz := hRz.all hb5 hBz; replace HB := Lib.hid (HB.out.trans (hb5.mono HB.out.size)); replace hBz := Nat.le_trans hBz hb5.size; clear hb5) | ((with_reducible refine (fadedBy_any s ye _ hs2 hs4 hy).mono ?_); rintro e w5 ⟨rfl, hb5⟩; (try replace hb5 := below_drew' hb5); replace x8 := x8.all hb5; replace x13 := x13.all hb5; replace ho := ho.all hb5; replace hRz := hRz.all hb5 hBz; replace HB := Lib.hid (HB.out.trans (hb5.mono HB.out.size)); replace hBz := Nat.le_trans hBz hb5.size; clear hb5))
            refine hK.out _ _ (by exact ⟨x8.cell 0, x8.cell 1, x8.cell 2, x8.cell 3, x8.cell 4, x13.cell 0, x13.cell 1, x13.cell 2, x13.cell 3, x13.cell 4⟩) (fun hHeld => ?_)
            clear hK K
            (try simp only [Act.put, List.getElem_toArray, List.getElem_cons_zero, List.getElem_cons_succ, List.setIfInBounds_toArray, List.set_cons_zero, List.set_cons_succ])
            refine wpAnyH_take (i := 14) (v := ?_) rfl (by kernel_rfl) (by kernel_rfl) (by kernel_rfl) (fun _ _ _ h => h) (Or.inl ⟨by rfl, ?_⟩) (by assumption) ?_
            rotate_left
            · intro w hSw; (try dsimp only at hSw); go_simp; (try with_reducible rfl)
            (try simp only [Act.put, List.getElem_toArray, List.getElem_cons_zero, List.getElem_cons_succ, List.setIfInBounds_toArray, List.set_cons_zero, List.set_cons_succ])
            refine wpAnyH_take (i := 15) (v := ?_) rfl (by kernel_rfl) (by kernel_rfl) (by kernel_rfl) (fun _ _ _ h => h) (Or.inl ⟨by rfl, ?_⟩) (by assumption) ?_
            rotate_left
            · intro w hSw; (try dsimp only at hSw); go_simp; (try with_reducible rfl)
            (try simp only [Act.put, List.getElem_toArray, List.getElem_cons_zero, List.getElem_cons_succ, List.setIfInBounds_toArray, List.set_cons_zero, List.set_cons_succ])
            refine wpAnyH_done (by kernel_rfl) ?_ _
            refine NoPanic.normal ?_
            go_wp2_with fail
            go_roundw
            case rel => exact ⟨k + 1, A8, c8, acc3, by omega, by go_num, rfl, Lib.hid (bRows_no HXs.out (fun hh => t2 (HE.out ▸ hh.2)) HACC3.out), ho, HB, x8, hRz⟩
            case measure => simp [intOf]; omega
          refine wp_region_noPanic ?_
          refine wp_region_held_drew (S := (fun w' => w'.cell? ⟨P, 0, none⟩ = some (.int .i64 a.f0) ∧ w'.cell? ⟨P, 1, none⟩ = some (.string a.f1) ∧ w'.cell? ⟨P, 2, none⟩ = some (.int .i64 a.f2) ∧ w'.cell? ⟨P, 3, none⟩ = some (.int .i64 a.f3) ∧ w'.cell? ⟨P, 4, none⟩ = some (.int .i64 a.f4) ∧ w'.cell? ⟨U, 0, none⟩ = some (.int .i64 s.f0) ∧ w'.cell? ⟨U, 1, none⟩ = some (.string s.f1) ∧ w'.cell? ⟨U, 2, none⟩ = some (.int .i64 s.f2) ∧ w'.cell? ⟨U, 3, none⟩ = some (.int .i64 s.f3) ∧ w'.cell? ⟨U, 4, none⟩ = some (.int .i64 s.f4))) (by kernel_rfl) (by exact ⟨x8.cell 0, x8.cell 1, x8.cell 2, x8.cell 3, x8.cell 4, x13.cell 0, x13.cell 1, x13.cell 2, x13.cell 3, x13.cell 4⟩) (fun hHeld => ?_)
          refine wpAnyH_take (i := 0) (v := ?_) rfl (by kernel_rfl) (by kernel_rfl) (by kernel_rfl) (fun _ _ _ h => h) (Or.inl ⟨by rfl, ?_⟩) (by assumption) ?_
          rotate_left
          · intro w hSw; (try dsimp only at hSw); go_simp; (try with_reducible rfl)
          (try simp only [Act.put, List.getElem_toArray, List.getElem_cons_zero, List.setIfInBounds_toArray, List.set_cons_zero, List.set_cons_succ])
          refine wpAnyH_take (i := 1) (v := ?_) rfl (by kernel_rfl) (by kernel_rfl) (by kernel_rfl) (fun _ _ _ h => h) (Or.inl ⟨by rfl, ?_⟩) (by assumption) ?_
          rotate_left
          · intro w hSw; (try dsimp only at hSw); go_simp; (try with_reducible rfl)
          (try simp only [Act.put, List.getElem_toArray, List.getElem_cons_zero, List.getElem_cons_succ, List.setIfInBounds_toArray, List.set_cons_zero, List.set_cons_succ])
          refine wpAnyH_take (i := 3) (v := ?_) rfl (by kernel_rfl) (by kernel_rfl) (by kernel_rfl) (fun _ _ _ h => h) (Or.inl ⟨by rfl, ?_⟩) (by assumption) ?_
          rotate_left
          · intro w hSw; (try dsimp only at hSw); go_simp; (try with_reducible rfl)
          (try simp only [Act.put, List.getElem_toArray, List.getElem_cons_zero, List.getElem_cons_succ, List.setIfInBounds_toArray, List.set_cons_zero, List.set_cons_succ])
          refine wpAnyH_ready (rs := [2]) (by kernel_rfl) (by simp) ?_
          refine AllReadyH.cons rfl (fun K hK => ?_) AllReadyH.nil
          go_simp
          (first | ((with_reducible refine (HD1.out _).mono ?_); rintro e w5 ⟨rfl, hb5⟩; (try replace hb5 := below_drew' hb5); replace x8 := x8.all hb5; replace x13 := x13.all hb5; replace ho := ho.all hb5; replace hRz := hRz.all hb5 hBz; replace HB := Lib.hid (HB.out.trans (hb5.mono HB.out.size)); replace hBz := Nat.le_trans hBz hb5.size; clear hb5) | ((with_reducible refine (HD2.out _).mono ?_); rintro e w5 ⟨rfl, hb5⟩; (try replace hb5 := below_drew' hb5); replace x8 := x8.all hb5; replace x13 := x13.all hb5; replace ho := ho.all hb5; replace hRz := hRz.all hb5 hBz; replace HB := Lib.hid (HB.out.trans (hb5.mono HB.out.size)); replace hBz := Nat.le_trans hBz hb5.size; clear hb5) | ((with_reducible refine (fadedBy_any a ye _ ha2 ha4 hy).mono ?_); rintro e w5 ⟨rfl, hb5⟩; (try replace hb5 := below_drew' hb5); replace x8 := x8.all hb5; replace x13 := x13.all hb5; replace ho := ho.all hb5; replace hRz := hRz.all hb5 hBz; replace HB := Lib.hid (HB.out.trans (hb5.mono HB.out.size)); replace hBz := Nat.le_trans hBz hb5.size; clear hb5) | ((with_reducible refine (fadedBy_any s ye _ hs2 hs4 hy).mono ?_); rintro e w5 ⟨rfl, hb5⟩; (try replace hb5 := below_drew' hb5); replace x8 := x8.all hb5; replace x13 := x13.all hb5; replace ho := ho.all hb5; replace hRz := hRz.all hb5 hBz; replace HB := Lib.hid (HB.out.trans (hb5.mono HB.out.size)); replace hBz := Nat.le_trans hBz hb5.size; clear hb5))
          refine hK.out _ _ (by exact ⟨x8.cell 0, x8.cell 1, x8.cell 2, x8.cell 3, x8.cell 4, x13.cell 0, x13.cell 1, x13.cell 2, x13.cell 3, x13.cell 4⟩) (fun hHeld => ?_)
          clear hK K
          (try simp only [Act.put, List.getElem_toArray, List.getElem_cons_zero, List.getElem_cons_succ, List.setIfInBounds_toArray, List.set_cons_zero, List.set_cons_succ])
          refine wpAnyH_take (i := 4) (v := ?_) rfl (by kernel_rfl) (by kernel_rfl) (by kernel_rfl) (fun _ _ _ h => h) (Or.inl ⟨by rfl, ?_⟩) (by assumption) ?_
          rotate_left
          · intro w hSw; (try dsimp only at hSw); go_simp; (try with_reducible rfl)
          (try simp only [Act.put, List.getElem_toArray, List.getElem_cons_zero, List.getElem_cons_succ, List.setIfInBounds_toArray, List.set_cons_zero, List.set_cons_succ])
          refine wpAnyH_take (i := 5) (v := ?_) rfl (by kernel_rfl) (by kernel_rfl) (by kernel_rfl) (fun _ _ _ h => h) (Or.inl ⟨by rfl, ?_⟩) (by assumption) ?_
          rotate_left
          · intro w hSw; (try dsimp only at hSw); go_simp; (try with_reducible rfl)
          (try simp only [Act.put, List.getElem_toArray, List.getElem_cons_zero, List.getElem_cons_succ, List.setIfInBounds_toArray, List.set_cons_zero, List.set_cons_succ])
          refine wpAnyH_take (i := 6) (v := ?_) rfl (by kernel_rfl) (by kernel_rfl) (by kernel_rfl) (fun _ _ _ h => h) (Or.inl ⟨by rfl, ?_⟩) (by assumption) ?_
          rotate_left
          · intro w hSw; (try dsimp only at hSw); go_simp; (try with_reducible rfl)
          (try simp only [Act.put, List.getElem_toArray, List.getElem_cons_zero, List.getElem_cons_succ, List.setIfInBounds_toArray, List.set_cons_zero, List.set_cons_succ])
          refine wpAnyH_take (i := 7) (v := ?_) rfl (by kernel_rfl) (by kernel_rfl) (by kernel_rfl) (fun _ _ _ h => h) (Or.inl ⟨by rfl, ?_⟩) (by assumption) ?_
          rotate_left
          · intro w hSw; (try dsimp only at hSw); go_simp; (try with_reducible rfl)
          (try simp only [Act.put, List.getElem_toArray, List.getElem_cons_zero, List.getElem_cons_succ, List.setIfInBounds_toArray, List.set_cons_zero, List.set_cons_succ])
          refine wpAnyH_take (i := 9) (v := ?_) rfl (by kernel_rfl) (by kernel_rfl) (by kernel_rfl) (fun _ _ _ h => h) (Or.inl ⟨by rfl, ?_⟩) (by assumption) ?_
          rotate_left
          · intro w hSw; (try dsimp only at hSw); go_simp; (try with_reducible rfl)
          (try simp only [Act.put, List.getElem_toArray, List.getElem_cons_zero, List.getElem_cons_succ, List.setIfInBounds_toArray, List.set_cons_zero, List.set_cons_succ])
          refine wpAnyH_take (i := 10) (v := ?_) rfl (by kernel_rfl) (by kernel_rfl) (by kernel_rfl) (fun _ _ _ h => h) (Or.inl ⟨by rfl, ?_⟩) (by assumption) ?_
          rotate_left
          · intro w hSw; (try dsimp only at hSw); go_simp; (try with_reducible rfl)
          (try simp only [Act.put, List.getElem_toArray, List.getElem_cons_zero, List.getElem_cons_succ, List.setIfInBounds_toArray, List.set_cons_zero, List.set_cons_succ])
          refine wpAnyH_take (i := 13) (v := ?_) rfl (by kernel_rfl) (by kernel_rfl) (by kernel_rfl) (fun _ _ _ h => h) (Or.inl ⟨by rfl, ?_⟩) (by assumption) ?_
          rotate_left
          · intro w hSw; (try dsimp only at hSw); go_simp; (try with_reducible rfl)
          (try simp only [Act.put, List.getElem_toArray, List.getElem_cons_zero, List.getElem_cons_succ, List.setIfInBounds_toArray, List.set_cons_zero, List.set_cons_succ])
          refine wpAnyH_ready (rs := [8]) (by kernel_rfl) (by simp) ?_
          refine AllReadyH.cons rfl (fun K hK => ?_) AllReadyH.nil
          go_simp
          (first | ((with_reducible refine (HD1.out _).mono ?_); rintro e w5 ⟨rfl, hb5⟩; (try replace hb5 := below_drew' hb5); replace x8 := x8.all hb5; replace x13 := x13.all hb5; replace ho := ho.all hb5; replace hRz := hRz.all hb5 hBz; replace HB := Lib.hid (HB.out.trans (hb5.mono HB.out.size)); replace hBz := Nat.le_trans hBz hb5.size; clear hb5) | ((with_reducible refine (HD2.out _).mono ?_); rintro e w5 ⟨rfl, hb5⟩; (try replace hb5 := below_drew' hb5); replace x8 := x8.all hb5; replace x13 := x13.all hb5; replace ho := ho.all hb5; replace hRz := hRz.all hb5 hBz; replace HB := Lib.hid (HB.out.trans (hb5.mono HB.out.size)); replace hBz := Nat.le_trans hBz hb5.size; clear hb5) | ((with_reducible refine (fadedBy_any a ye _ ha2 ha4 hy).mono ?_); rintro e w5 ⟨rfl, hb5⟩; (try replace hb5 := below_drew' hb5); replace x8 := x8.all hb5; replace x13 := x13.all hb5; replace ho := ho.all hb5; replace hRz := hRz.all hb5 hBz; replace HB := Lib.hid (HB.out.trans (hb5.mono HB.out.size)); replace hBz := Nat.le_trans hBz hb5.size; clear hb5) | ((with_reducible refine (fadedBy_any s ye _ hs2 hs4 hy).mono ?_); rintro e w5 ⟨rfl, hb5⟩; (try replace hb5 := below_drew' hb5); replace x8 := x8.all hb5; replace x13 := x13.all hb5; replace ho := ho.all hb5; replace hRz := hRz.all hb5 hBz; replace HB := Lib.hid (HB.out.trans (hb5.mono HB.out.size)); replace hBz := Nat.le_trans hBz hb5.size; clear hb5))
          refine hK.out _ _ (by exact ⟨x8.cell 0, x8.cell 1, x8.cell 2, x8.cell 3, x8.cell 4, x13.cell 0, x13.cell 1, x13.cell 2, x13.cell 3, x13.cell 4⟩) (fun hHeld => ?_)
          clear hK K
          (try simp only [Act.put, List.getElem_toArray, List.getElem_cons_zero, List.getElem_cons_succ, List.setIfInBounds_toArray, List.set_cons_zero, List.set_cons_succ])
          refine wpAnyH_ready (rs := [11]) (by kernel_rfl) (by simp) ?_
          refine AllReadyH.cons rfl (fun K hK => ?_) AllReadyH.nil
          go_simp
          (first | ((with_reducible refine (HD1.out _).mono ?_); rintro e w5 ⟨rfl, hb5⟩; (try replace hb5 := below_drew' hb5); replace x8 := x8.all hb5; replace x13 := x13.all hb5; replace ho := ho.all hb5; replace hRz := hRz.all hb5 hBz; replace HB := Lib.hid (HB.out.trans (hb5.mono HB.out.size)); replace hBz := Nat.le_trans hBz hb5.size; clear hb5) | ((with_reducible refine (HD2.out _).mono ?_); rintro e w5 ⟨rfl, hb5⟩; (try replace hb5 := below_drew' hb5); replace x8 := x8.all hb5; replace x13 := x13.all hb5; replace ho := ho.all hb5; replace hRz := hRz.all hb5 hBz; replace HB := Lib.hid (HB.out.trans (hb5.mono HB.out.size)); replace hBz := Nat.le_trans hBz hb5.size; clear hb5) | ((with_reducible refine (fadedBy_any a ye _ ha2 ha4 hy).mono ?_); rintro e w5 ⟨rfl, hb5⟩; (try replace hb5 := below_drew' hb5); replace x8 := x8.all hb5; replace x13 := x13.all hb5; replace ho := ho.all hb5; replace hRz := hRz.all hb5 hBz; replace HB := Lib.hid (HB.out.trans (hb5.mono HB.out.size)); replace hBz := Nat.le_trans hBz hb5.size; clear hb5) | ((with_reducible refine (fadedBy_any s ye _ hs2 hs4 hy).mono ?_); rintro e w5 ⟨rfl, hb5⟩; (try replace hb5 := below_drew' hb5); replace x8 := x8.all hb5; replace x13 := x13.all hb5; replace ho := ho.all hb5; replace hRz := hRz.all hb5 hBz; replace HB := Lib.hid (HB.out.trans (hb5.mono HB.out.size)); replace hBz := Nat.le_trans hBz hb5.size; clear hb5))
          refine hK.out _ _ (by exact ⟨x8.cell 0, x8.cell 1, x8.cell 2, x8.cell 3, x8.cell 4, x13.cell 0, x13.cell 1, x13.cell 2, x13.cell 3, x13.cell 4⟩) (fun hHeld => ?_)
          clear hK K
          (try simp only [Act.put, List.getElem_toArray, List.getElem_cons_zero, List.getElem_cons_succ, List.setIfInBounds_toArray, List.set_cons_zero, List.set_cons_succ])
          refine wpAnyH_ready (rs := [12]) (by kernel_rfl) (by simp) ?_
          refine AllReadyH.cons rfl (fun K hK => ?_) AllReadyH.nil
          go_simp
          (first | ((with_reducible refine (HD1.out _).mono ?_); rintro e w5 ⟨rfl, hb5⟩; (try replace hb5 := below_drew' hb5); replace x8 := x8.all hb5; replace x13 := x13.all hb5; replace ho := ho.all hb5; replace hRz := hRz.all hb5 hBz; replace HB := Lib.hid (HB.out.trans (hb5.mono HB.out.size)); replace hBz := Nat.le_trans hBz hb5.size; clear hb5) | ((with_reducible refine (HD2.out _).mono ?_); rintro e w5 ⟨rfl, hb5⟩; (try replace hb5 := below_drew' hb5); replace x8 := x8.all hb5; replace x13 := x13.all hb5; replace ho := ho.all hb5; replace hRz := hRz.all hb5 hBz; replace HB := Lib.hid (HB.out.trans (hb5.mono HB.out.size)); replace hBz := Nat.le_trans hBz hb5.size; clear hb5) | ((with_reducible refine (fadedBy_any a ye _ ha2 ha4 hy).mono ?_); rintro e w5 ⟨rfl, hb5⟩; (try replace hb5 := below_drew' hb5); replace x8 := x8.all hb5; replace x13 := x13.all hb5; replace ho := ho.all hb5; replace hRz := hRz.all hb5 hBz; replace HB := Lib.hid (HB.out.trans (hb5.mono HB.out.size)); replace hBz := Nat.le_trans hBz hb5.size; clear hb5) | ((with_reducible refine (fadedBy_any s ye _ hs2 hs4 hy).mono ?_); rintro e w5 ⟨rfl, hb5⟩; (try replace hb5 := below_drew' hb5); replace x8 := x8.all hb5; replace x13 := x13.all hb5; replace ho := ho.all hb5; replace hRz := hRz.all hb5 hBz; replace HB := Lib.hid (HB.out.trans (hb5.mono HB.out.size)); replace hBz := Nat.le_trans hBz hb5.size; clear hb5))
          refine hK.out _ _ (by exact ⟨x8.cell 0, x8.cell 1, x8.cell 2, x8.cell 3, x8.cell 4, x13.cell 0, x13.cell 1, x13.cell 2, x13.cell 3, x13.cell 4⟩) (fun hHeld => ?_)
          clear hK K
          (try simp only [Act.put, List.getElem_toArray, List.getElem_cons_zero, List.getElem_cons_succ, List.setIfInBounds_toArray, List.set_cons_zero, List.set_cons_succ])
          refine wpAnyH_take (i := 14) (v := ?_) rfl (by kernel_rfl) (by kernel_rfl) (by kernel_rfl) (fun _ _ _ h => h) (Or.inl ⟨by rfl, ?_⟩) (by assumption) ?_
          rotate_left
          · intro w hSw; (try dsimp only at hSw); go_simp; (try with_reducible rfl)
          (try simp only [Act.put, List.getElem_toArray, List.getElem_cons_zero, List.getElem_cons_succ, List.setIfInBounds_toArray, List.set_cons_zero, List.set_cons_succ])
          refine wpAnyH_take (i := 15) (v := ?_) rfl (by kernel_rfl) (by kernel_rfl) (by kernel_rfl) (fun _ _ _ h => h) (Or.inl ⟨by rfl, ?_⟩) (by assumption) ?_
          rotate_left
          · intro w hSw; (try dsimp only at hSw); go_simp; (try with_reducible rfl)
          (try simp only [Act.put, List.getElem_toArray, List.getElem_cons_zero, List.getElem_cons_succ, List.setIfInBounds_toArray, List.set_cons_zero, List.set_cons_succ])
          refine wpAnyH_done (by kernel_rfl) ?_ _
          refine NoPanic.normal ?_
          have HYES := Lib.hid (bRows_yes HXs.out (by rw [HD.out]; exact t1) (by rw [HE.out]; exact t2) HACC3.out)
          have hzw := HB.out.size
          obtain ⟨hs0, _, hrow0, _⟩ := id ho
          obtain ⟨_, _, _, hbd⟩ := ho.form
          have e80 := x8.cell 0
          have e81 := x8.cell 1
          have e82 := x8.cell 2
          have e83 := x8.cell 3
          have e84 := x8.cell 4
          have e130 := x13.cell 0
          have e131 := x13.cell 1
          have e132 := x13.cell 2
          have e133 := x13.cell 3
          have e134 := x13.cell 4
          go_wp2_with (refine wpList_pushP rfl _ (.tmp 58) (.tmp 64) 32 rfl Try.underlying32 info_ints w.heap.size acc3.length _ acc3 a.f0 s.f0 rfl rfl rfl ho (by omega) ia0 is0 hzw ?_)
          intro A11 c11 w8 ho8 hg8
          have y8 := x8.mark hg8 (row_ne hrow0 x8 (by decide))
          have zRz := hRz.mark hg8 (fun k hk => Nat.le_trans hB (hbd k hk).1) hBz
          have HB8 := Lib.hid (HB.out.grown hg8 hzw (fun q hq => (hbd q hq).1))
          clear hg8 hrow0 hbd
          go_wp2
          go_roundw
          case rel => exact ⟨k + 1, A11, c11, acc3 ++ [[a.f0, s.f0]], by omega, by go_num, by rw [List.length_append]; rfl, HYES, by rw [List.length_append]; exact ho8, HB8, y8, zRz⟩
          case measure => simp [intOf]; omega
        · have HE : Hid (acc3 ++ aRows ye le (xs.drop (i + 1)) = TOT) := by
            have := HACC3.out
            rw [bRows_none ye le a (by rw [hRz.len]; omega), List.nil_append, ← HR2.out] at this
            exact this
          go_wp2
          go_roundw
          case rel => exact ⟨i + 1, A8, c8, acc3, by omega, by go_num, rfl, HE, ho, HB⟩
          case measure => simp [intOf]; omega
    · have HE : acc = TOT := by
        have := HACC.out
        rw [aRows_none ye le (by omega), List.append_nil] at this
        exact this
      subst HE
      go_wp2
      go_ret2
      rw [hRes.out.1, hRes.out.2, HT0.out]
      exact ⟨A6, c6, rfl, ho, HB.out⟩
end Go.Proofs.Ytmdgclbcjjmpiaa
