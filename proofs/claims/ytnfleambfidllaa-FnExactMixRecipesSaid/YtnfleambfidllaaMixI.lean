/- The walk of the program's MixRecipes. No condition. -/
import Derived.Test.YtnfleambfidllaaMix2
import Derived.Test.YtnfleambfidllaaDyeGood
namespace Go.Proofs.Ytnfleambfidllaa
open Go.RowKit

set_option maxRecDepth 100000 in
set_option maxHeartbeats 400000 in
theorem divUp_any (x : Int) (w : World) (h0 : 0 ≤ x) (h1 : x ≤ 1000000000) : Calls Try.prog 56 #[.int .i64 x, .int .i64 100] w fun e w' => e = .returned (.int .i64 ((x + 99) / 100)) ∧ w = w' := by
  have e1 : IntKind.i64.wrap (x + 100) = x + 100 := IntWalk.i64_in _ (by omega)
  have e2 : IntKind.i64.wrap (x + 100 - 1) = x + 99 := by rw [IntWalk.i64_in _ (by omega)]; omega
  have ed : Int.tdiv (x + 99) 100 = (x + 99) / 100 := Int.tdiv_eq_ediv_of_nonneg (by omega)
  go_enter Try.func56, Try.ntmps56
  go_wp2
  go_ret
  exact ⟨ret_int (by first | (rw [ed]; done) | omega | (congr 1; omega)), rfl⟩
/-- What MixRecipes tells. -/
noncomputable def mixOk (a b : List DyePartR) (sh : Int) : Bool := recB a && recB b && inB sh 0 100 && recB (mixL a b sh)
noncomputable def mixR (a b : List DyePartR) (sh : Int) : List DyePartR := if mixOk a b sh = true then mixL a b sh else []
theorem mix_no {a b : List DyePartR} {sh : Int} (h : mixOk a b sh = false) : mixR a b sh = [] := by unfold mixR; rw [h]; rfl
theorem mix_yes {a b : List DyePartR} {sh : Int} (h : mixOk a b sh = true) : mixR a b sh = mixL a b sh := by unfold mixR; rw [if_pos h]
theorem mixR_len (a b : List DyePartR) (sh : Int) : (mixR a b sh).length ≤ 100000 := by
  cases h : mixOk a b sh
  · rw [mix_no h]; simp
  · rw [mix_yes h]
    simp only [mixOk, Bool.and_eq_true] at h
    have := rec_len h.2
    omega
/-- The mixture up to a place of the stuffs. -/
def mixTo (a b : List DyePartR) (sh : Int) (k : Nat) : List DyePartR := ((stuffsL a b).take k).filterMap (partS a b sh)
theorem mixTo_end {a b : List DyePartR} {sh : Int} {k : Nat} (h : (stuffsL a b).length ≤ k) : mixTo a b sh k = mixL a b sh := by unfold mixTo mixL; rw [List.take_of_length_le h]
theorem mixTo_succ {a b : List DyePartR} {sh : Int} {k : Nat} {s : ByteArray} (h : (stuffsL a b)[k]? = some s) : mixTo a b sh (k + 1) = if 0 < sumS a b sh s then mixTo a b sh k ++ [⟨s, nS a b sh s⟩] else mixTo a b sh k := by
  obtain ⟨hi, rfl⟩ := List.getElem?_eq_some_iff.1 h
  unfold mixTo
  rw [List.take_succ_eq_append_getElem hi, List.filterMap_append]
  unfold partS
  split
  · next hs => simp [hs]
  · next hs => simp [hs]
theorem mixTo_len (a b : List DyePartR) (sh : Int) (k : Nat) : (mixTo a b sh k).length ≤ (stuffsL a b).length := by
  unfold mixTo
  refine Nat.le_trans (List.length_filterMap_le _ _) ?_
  rw [List.length_take]
  omega
theorem stuffs_len (a b : List DyePartR) : (stuffsL a b).length ≤ a.length + b.length := by
  unfold stuffsL sortedL
  rw [List.length_map]
  refine Nat.le_trans (Lib.compact_length_le _) ?_
  rw [List.length_mergeSort]
  unfold namesL
  rw [List.length_map, List.length_append]
  exact Nat.le_refl _
set_option maxRecDepth 100000 in
set_option maxHeartbeats 2000000 in
theorem implMixRecipes_any (A : Option Addr) (n c B : Nat) (a : List DyePartR) (A' : Option Addr) (n' c' B' : Nat) (b : List DyePartR) (sh : Int) (w : World) (h : RdF dyePartF w B A n c a) (hB : B ≤ w.heap.size) (h' : RdF dyePartF w B' A' n' c' b) (hB' : B' ≤ w.heap.size) :
    Calls Try.prog 24 #[.slice A n c, .slice A' n' c', .int .i64 sh] w (OutF dyePartF w (mixR a b sh) (mixOk a b sh)) := by
  obtain rfl := h.len
  obtain rfl := h'.len
  cases ha : recB a
  case false =>
    have H2 := Lib.hid (show mixOk a b sh = false by simp [mixOk, ha])
    have H := Lib.hid (mix_no H2.out)
    rw [H.out, H2.out]
    go_enter Try.func24, Try.ntmps24
    go_wp2_with fail
    refine (implIsRecipe_any A _ c B a _ h hB).mono ?_
    rintro e w1 ⟨rfl, hb⟩
    rw [ha]
    go_wp2
    go_ret2
    exact ⟨none, 0, rfl, OwnF.nil _ _ _, hb⟩
  cases hb : recB b
  case false =>
    have H2 := Lib.hid (show mixOk a b sh = false by simp [mixOk, hb])
    have H := Lib.hid (mix_no H2.out)
    rw [H.out, H2.out]
    go_enter Try.func24, Try.ntmps24
    go_wp2_with fail
    refine (implIsRecipe_any A _ c B a _ h hB).mono ?_
    rintro e w1 ⟨rfl, hb1⟩
    have hz1 := hb1.size
    have hR' := h'.all hb1 hB'
    rw [ha]
    go_wp2_with fail
    refine (implIsRecipe_any A' _ c' B' b _ hR' (by omega)).mono ?_
    rintro e w2 ⟨rfl, hb2⟩
    rw [hb]
    go_wp2
    go_ret2
    exact ⟨none, 0, rfl, OwnF.nil _ _ _, hb1.trans (hb2.mono hz1)⟩
  have HAR := Lib.hid ha
  have HBR := Lib.hid hb
  by_cases hs : inB sh 0 100 = true
  rotate_left
  · have hs' := not_false hs
    have H2 := Lib.hid (show mixOk a b sh = false by simp [mixOk, hs'])
    have H := Lib.hid (mix_no H2.out)
    rw [H.out, H2.out]
    go_enter Try.func24, Try.ntmps24
    go_wp2_with fail
    refine (implIsRecipe_any A _ c B a _ h hB).mono ?_
    rintro e w1 ⟨rfl, hb1⟩
    have hz1 := hb1.size
    have hR' := h'.all hb1 hB'
    rw [ha]
    go_wp2_with fail
    refine (implIsRecipe_any A' _ c' B' b _ hR' (by omega)).mono ?_
    rintro e w2 ⟨rfl, hb2⟩
    rw [hb]
    go_wp2_with ((go_at_call 37; (with_reducible refine (isBetween_any _ _ _ _).mono ?_); rintro e w' ⟨rfl, rfl⟩))
    go_ret2
    exact ⟨none, 0, rfl, OwnF.nil _ _ _, hb1.trans (hb2.mono hz1)⟩
  have hsh := inB_yes hs
  have hla := rec_len ha
  have hlb := rec_len hb
  have hok : mixOk a b sh = recB (mixL a b sh) := by unfold mixOk; rw [ha, hb, hs]; rfl
  have HOK := Lib.hid hok
  clear hok
  go_enter Try.func24, Try.ntmps24
  go_wp2_with fail
  refine (implIsRecipe_any A _ c B a _ h hB).mono ?_
  rintro e w1 ⟨rfl, hb1⟩
  have hz1 := hb1.size
  have hR1 := h.all hb1 hB
  have hR1' := h'.all hb1 hB'
  rw [ha]
  go_wp2_with fail
  refine (implIsRecipe_any A' _ c' B' b _ hR1' (by omega)).mono ?_
  rintro e w2 ⟨rfl, hb2⟩
  have HB2 := hb1.trans (hb2.mono hz1)
  have hz2 := HB2.size
  have hR2 := h.all HB2 hB
  have hR2' := h'.all HB2 hB'
  rw [hb]
  clear hb1 hb2 hR1 hR1'
  go_wp2_with ((go_at_call 37; (with_reducible refine (isBetween_any _ _ _ _).mono ?_); rintro e w' ⟨rfl, rfl⟩))
  refine (stuffsOf_any A _ c B a A' _ c' B' b _ hR2 (by omega) hR2' (by omega) HAR.out HBR.out).mono ?_
  rintro e w3 ⟨g, cc, rfl, ownT, hb3⟩
  have HB3 := HB2.trans (hb3.mono hz2)
  have hz3 := HB3.size
  have hgT : g < w3.heap.size := (ownT.bd g rfl).2
  replace ownT := ownT.mono hz2
  clear hb3 hR2 hR2' HB2 hs ha hb
  obtain ⟨T, hT⟩ : ∃ T, stuffsL a b = T := ⟨_, rfl⟩
  have hTl := stuffs_len a b
  rw [hT] at ownT hTl ⊢
  have HT := Lib.hid hT
  have hTl12 : T.length ≤ 12 := by omega
  clear hT hTl
  go_wp2
  go_loopw [29, 8] (fun i s wr => ∃ (k : Nat) (A8 : Option Addr) (c8 : Nat), k ≤ T.length ∧ i = .int .i64 k ∧ s = .slice A8 (mixTo a b sh k).length c8 ∧ OwnF dyePartF wr w3.heap.size (.slice A8 (mixTo a b sh k).length c8) (mixTo a b sh k) ∧ OwnF strF wr w.heap.size (.slice (some ⟨g, 0, none⟩) T.length cc) T ∧ Below w.heap.size w wr ∧ w3.heap.size ≤ wr.heap.size) (fun i _ _ => T.length - (intOf i).toNat)
  case atStart => exact ⟨0, none, 0, Nat.zero_le _, rfl, rfl, OwnF.nil _ _ _, ownT, HB3, Nat.le_refl _⟩
  case round =>
    clear ownT HB3
    obtain ⟨k, A8, c8, hk, rfl, rfl, own8, ownT, HB, hz⟩ := hrel
    have hsz := HB.size
    by_cases hlt : k < T.length
    · obtain ⟨bT, offT, s, e, hbT, hs0, hc0, HX⟩ := strs_at ownT.rd hlt
      cases e
      rw [Nat.zero_add] at hc0
      have HU := Lib.hid (mixTo_succ (sh := sh) (show (stuffsL a b)[k]? = some s by rw [HT.out]; exact HX.out))
      have hs10 : s.size ≤ 10 := by
        obtain ⟨q, hq, rfl⟩ := (stuffs_mem a b s).1 (by rw [HT.out]; exact List.mem_of_getElem? HX.out)
        have hw : wordB q.f0 = true := by
          rcases List.mem_append.1 hq with hq | hq
          · obtain ⟨j, hj⟩ := List.mem_iff_getElem?.1 hq
            exact (part_at HAR.out hj).1
          · obtain ⟨j, hj⟩ := List.mem_iff_getElem?.1 hq
            exact (part_at HBR.out hj).1
        simp only [wordB, Bool.and_eq_true, decide_eq_true_eq] at hw
        omega
      have hML := mixTo_len a b sh k
      rw [HT.out] at hML
      obtain ⟨⟨p0, p1⟩, ⟨p2, p3⟩, p4, p5⟩ := sumS_bd HAR.out HBR.out hsh.1 hsh.2 s
      have hki : (0 : Int) ≤ (k : Int) := by omega
      have hkn : (k : Int) < (T.length : Int) := by omega
      have hsum : sumS a b sh s = ofS a s * (100 - sh) + ofS b s * sh := rfl
      obtain ⟨u, hu⟩ : ∃ u, ofS a s * (100 - sh) = u := ⟨_, rfl⟩
      obtain ⟨v, hv⟩ : ∃ v, ofS b s * sh = v := ⟨_, rfl⟩
      rw [hu, hv] at hsum
      rw [hu] at p0 p1
      rw [hv] at p2 p3
      have e1 : IntKind.i64.wrap (100 - sh) = 100 - sh := IntWalk.i64_in _ (by omega)
      have e2 : IntKind.i64.wrap (ofS a s * (100 - sh)) = u := by rw [hu]; exact IntWalk.i64_in _ (by omega)
      have e3 : IntKind.i64.wrap (ofS b s * sh) = v := by rw [hv]; exact IntWalk.i64_in _ (by omega)
      have e4 : IntKind.i64.wrap (u + v) = u + v := IntWalk.i64_in _ (by omega)
      have hRa := h.all HB hB
      have hRb := h'.all HB hB'
      go_wp2_with fail
      refine (perMilOf_any A _ c B a s _ hRa (by omega)).mono ?_
      rintro e w4 ⟨rfl, hb4⟩
      replace own8 := own8.all hb4
      replace ownT := ownT.all hb4
      replace hRb := hRb.all hb4 (by omega)
      replace HB := HB.trans (hb4.mono hsz)
      replace hsz := HB.size
      replace hz := Nat.le_trans hz hb4.size
      clear hb4 hRa hc0
      go_wp2_with fail
      refine (perMilOf_any A' _ c' B' b s _ hRb (by omega)).mono ?_
      rintro e w5 ⟨rfl, hb5⟩
      replace own8 := own8.all hb5
      replace ownT := ownT.all hb5
      replace HB := HB.trans (hb5.mono hsz)
      replace hsz := HB.size
      replace hz := Nat.le_trans hz hb5.size
      clear hb5 hRb
      by_cases hpos : 0 < u + v
      · rw [if_pos (by rw [hsum]; exact hpos)] at HU
        have hn : nS a b sh s = (u + v + 99) / 100 := by unfold nS; rw [hsum]
        have hnb : I64 (nS a b sh s) := by rw [hn]; exact ⟨by omega, by omega⟩
        have HNN := Lib.hid hn
        obtain ⟨M, hM⟩ : ∃ M, mixTo a b sh k = M := ⟨_, rfl⟩
        rw [hM] at own8 hML HU ⊢
        clear hn hM
        go_wp2_with fail
        refine (clone_any s _ (by omega)).mono ?_
        rintro e w6 ⟨rfl, hb6⟩
        replace own8 := own8.all hb6
        replace ownT := ownT.all hb6
        replace HB := HB.trans (hb6.mono hsz)
        replace hsz := HB.size
        replace hz := Nat.le_trans hz hb6.size
        clear hb6 e1 e2 e3 e4
        have hok1 : DyePartR.ok ⟨s, nS a b sh s⟩ := ⟨hs0, hnb⟩
        have hr := RdF.lit (F := dyePartF) (w := w6) (cs := #[.string s, .int .i64 ((u + v + 99) / 100)]) (a := ⟨s, nS a b sh s⟩) (by rw [HNN.out]; rfl) hok1
        have own8a := own8.alloc (.cells #[.string s, .int .i64 ((u + v + 99) / 100)] 43)
        have ownTa := ownT.alloc (.cells #[.string s, .int .i64 ((u + v + 99) / 100)] 43)
        have HBa := HB.alloc hsz (.cells #[.string s, .int .i64 ((u + v + 99) / 100)] 43)
        have hza : w3.heap.size ≤ (w6.alloc (.cells #[.string s, .int .i64 ((u + v + 99) / 100)] 43)).heap.size := by simp; omega
        have hsza := HBa.size
        go_wp2_with (first | (go_at_call 56; refine (divUp_any _ _ (by omega) (by omega)).mono ?_; rintro e w7 ⟨rfl, rfl⟩) | (at_builtin; refine wpList_appendF dyePartF rfl _ (.tmp 47) (.tmp 53) 24 (.agg #[.string ⟨#[]⟩, .int .i64 0]) 24 rfl Try.underlying24 info_DyePart rfl (by decide) (by decide) w3.heap.size _ M [⟨s, nS a b sh s⟩] w6.heap.size 0 1 1 (w6.heap.size + 1) rfl rfl own8a hr (by simp; omega) hza ?_))
        intro A9 c9 w9 o9 hg9
        have HB9 := HBa.grown hg9 hsza (fun q hq => by have := (own8a.bd q hq).1; omega)
        have ownT9 := ownTa.mark hg9 (fun q q' hq hq' => by
          have h1 := (own8a.bd q hq).1
          have h2 : g = q' := by simpa [Value.ownBlock] using hq'
          omega)
        have hz9 : w3.heap.size ≤ w9.heap.size := Nat.le_trans hza hg9.size
        have HLM := Lib.hid (show (M ++ [(⟨s, nS a b sh s⟩ : DyePartR)]).length = M.length + 1 by simp)
        clear own8 own8a ownT ownTa HB HBa hg9 hr
        go_wp2
        go_roundw
        case rel => exact ⟨k + 1, A9, c9, by omega, by go_num, by rw [HU.out, HLM.out], by rw [HU.out, HLM.out]; exact o9, ownT9, HB9, hz9⟩
        case measure => simp [intOf]; omega
      · rw [if_neg (by rw [hsum]; exact hpos)] at HU
        go_wp2
        clear e1 e2 e3 e4
        go_roundw
        case rel => exact ⟨k + 1, A8, c8, by omega, by go_num, by rw [HU.out], by rw [HU.out]; exact own8, ownT, HB, hz⟩
        case measure => simp [intOf]; omega
    · have HE := Lib.hid (mixTo_end (sh := sh) (show (stuffsL a b).length ≤ k by rw [HT.out]; omega))
      rw [HE.out] at own8 ⊢
      go_wp2_with fail
      refine (implIsRecipe_any A8 _ c8 wr.heap.size (mixL a b sh) _ own8.rd (Nat.le_refl _)).mono ?_
      rintro e w7 ⟨rfl, hb7⟩
      replace own8 := own8.all hb7
      replace HB := HB.trans (hb7.mono hsz)
      clear hb7
      cases hm : recB (mixL a b sh)
      case false =>
        have H2 := Lib.hid (HOK.out.trans hm)
        have H := Lib.hid (mix_no H2.out)
        go_wp2
        go_ret2
        rw [H.out, H2.out]
        exact ⟨none, 0, rfl, OwnF.nil _ _ _, HB⟩
      have H2 := Lib.hid (HOK.out.trans hm)
      have H := Lib.hid (mix_yes H2.out)
      go_wp2
      go_ret2
      rw [H.out, H2.out]
      exact ⟨A8, c8, rfl, own8.mono hz3, HB⟩
end Go.Proofs.Ytnfleambfidllaa
