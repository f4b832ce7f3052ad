/- The walks that tell how much of each stuff is needed, both texts. Condition: a valid recipe. -/
import Derived.Test.YtjlidgeeehlkcaaBath
namespace Go.Proofs.Ytjlidgeeehlkcaa
open Go.RowKit

set_option maxRecDepth 100000 in
set_option maxHeartbeats 400000 in
theorem dividedUp_any (x b : Int) (w : World) (h0 : 0 ≤ x) (h1 : x ≤ 1000000000000) (hb0 : 1 ≤ b) (hb1 : b ≤ 1000000) : Calls Try.prog 41 #[.int .i64 x, .int .i64 b] w fun e w' => e = .returned (.int .i64 ((x + (b - 1)) / b)) ∧ w = w' := by
  have hne : (b == 0) = false := by simp; omega
  have hq : 0 ≤ (x + b - 1) / b := Int.ediv_nonneg (by omega) (by omega)
  have hq2 : (x + b - 1) / b ≤ x + b - 1 := Int.ediv_le_self _ (by omega)
  have ed : Int.tdiv (x + b - 1) b = (x + b - 1) / b := Int.tdiv_eq_ediv_of_nonneg (by omega)
  go_enter Try.func41, Try.ntmps41
  go_wp2
  go_ret
  exact ⟨ret_int (by first | (rw [ed]; congr 1; omega) | (congr 1; omega)), rfl⟩
set_option maxRecDepth 100000 in
set_option maxHeartbeats 4000000 in
theorem needsOf_any (A : Option Addr) (n c B : Nat) (xs : List DyePartR) (y : Int) (w : World) (h : RdF dyePartF w B A n c xs) (hB : B ≤ w.heap.size) (hg : recB xs = true) (hy0 : 0 ≤ y) (hy1 : y ≤ 50000) :
    Calls Try.prog 23 #[.slice A n c, .int .i64 y] w (Copied w (needs xs y)) := by
  obtain ⟨i0, hi, hz0, hz1, hz2⟩ := info_parts info_int
  obtain rfl := h.len
  have hl6 := rec_len hg
  have HG := Lib.hid hg
  clear hg
  go_enter Try.func23, Try.ntmps23
  go_wp2_with (at_make; refine wpList_make_full _ rfl _ _ 25 rfl w.heap.size 3 i0 (.int .i64 0) 1 Try.underlying25 hi hz0 hz1 _ _ _ _ xs.length rfl rfl rfl rfl (by rw [hz2]; omega) (by unfold maxLen; omega) (Nat.le_refl _) ?_)
  intro w0 hown0 hgrow0
  go_wp2
  go_loopw [13] (fun i wr => ∃ (k : Nat) (zs : List Int), k ≤ xs.length ∧ i = .int .i64 k ∧ zs.length = xs.length ∧ zs.take k = (needs xs y).take k ∧
      wr.ownsRow w.heap.size 3 1 (.slice (some ⟨w.heap.size, 0, none⟩) xs.length xs.length) xs.length (zs.map (Value.int .i64)) ∧ Below w.heap.size w wr)
    (fun i _ => xs.length - (intOf i).toNat)
  case atStart => exact ⟨0, List.replicate xs.length 0, Nat.zero_le _, rfl, by simp, by simp, by simpa [toList_madeCells_one, List.map_replicate] using hown0, (Below.refl _ _).grown hgrow0 (Nat.le_refl _) (fun k h => by cases h)⟩
  case round =>
    obtain ⟨k, zs, hk, rfl, hyl, hyt, hown, hb⟩ := hrel
    by_cases hlt : k < xs.length
    · have hzz := hb.size
      obtain ⟨b, off, a, rfl, hbB, _, HX, hc0, hc1⟩ := DyePartR_at (F := dyePartF) rfl (fun _ => rfl) (fun _ => rfl) (h.all hb hB) hlt
      obtain ⟨_, hp0, hp1⟩ := part_at HG.out HX.out
      have HN := Lib.hid (needs_at (y := y) HX.out)
      have x7 := Blk.new wr #[.string a.f0, .int .i64 a.f1] 43
      have hownA := row_all hown ((Below.refl _ _).alloc (Nat.le_refl _) (.cells #[.string a.f0, .int .i64 a.f1] 43))
      have hbA := hb.alloc hzz (.cells #[.string a.f0, .int .i64 a.f1] 43)
      have HY := Lib.hid (take_step HN.out (by rw [needs_len]; exact hyl) hyt)
      have HL := Lib.hid hyl
      have hm := mul_bd (show (0 : Int) ≤ a.f1 by omega) hp1 hy0 hy1
      have em : IntKind.i64.wrap (a.f1 * y) = a.f1 * y := IntWalk.i64_in _ (by omega)
      have hki : (0 : Int) ≤ (k : Int) := by omega
      have hkn : (k : Int) < (xs.length : Int) := by omega
      have hbz : b < wr.heap.size := by omega
      have hwz : w.heap.size < wr.heap.size := (hown.lt _ rfl).2
      have HT := Lib.hid (show k < zs.length by omega)
      clear hyl hyt
      go_wp2_with fail
      clear hc0 hc1 hown hb hbz
      generalize wr.alloc (.cells #[.string a.f0, .int .i64 a.f1] 43) = W4 at *
      generalize wr.heap.size = P at *
      have e1 := x7.cell 1
      obtain ⟨v, hv⟩ : ∃ v, W4.cell? ⟨w.heap.size, k, none⟩ = some v := ⟨.int .i64 (zs.getD k 0), by have := HT.out; rw [hownA.cellAt k (by omega), List.getElem?_map, List.getElem?_eq_getElem (by omega), getD_at (by omega)]; rfl⟩
      have hf := hownA.frozenAt k
      have HS := hownA.stored k (.int .i64 (needI a y))
      go_wp2_with ((go_at_call 41; (with_reducible refine (dividedUp_any _ _ _ hm.1 (by omega) (by omega) (by omega)).mono ?_); rintro e w' ⟨rfl, rfl⟩))
      have en : (a.f1 * y + (1000 - 1)) / 1000 = needI a y := by unfold needI; omega
      go_roundw
      case rel => exact ⟨k + 1, zs.set k (needI a y), by omega, by go_num, by rw [List.length_set]; exact HL.out, HY.out, by rw [List.map_set]; first | exact HS.1 | (rw [← en] at HS ⊢; exact HS.1), by first | exact hbA.setCell (p := ⟨w.heap.size, k, none⟩) (Nat.le_refl _) _⟩
      case measure => simp [intOf]; omega
    · go_wp2
      go_ret
      have e : zs = needs xs y := by rw [List.take_of_length_le (by omega), List.take_of_length_le (by rw [needs_len]; omega)] at hyt; exact hyt
      subst e
      refine ⟨w.heap.size, by rw [needs_len]; rfl, ⟨by rw [needs_len]; exact hown, fun z hz => ?_⟩, hb⟩
      simp only [needs, List.mem_map] at hz
      obtain ⟨p, hp, rfl⟩ := hz
      obtain ⟨j, hj, rfl⟩ := List.getElem_of_mem hp
      obtain ⟨_, hp0, hp1⟩ := part_at HG.out (List.getElem?_eq_getElem hj)
      have := needI_bd hp0 hp1 hy0 hy1
      exact ⟨by omega, by omega⟩
set_option maxRecDepth 100000 in
set_option maxHeartbeats 4000000 in
theorem l7Needs_any (A : Option Addr) (n c B : Nat) (xs : List DyePartR) (y : Int) (w : World) (h : RdF dyePartF w B A n c xs) (hB : B ≤ w.heap.size) (hg : recB xs = true) (hy0 : 0 ≤ y) (hy1 : y ≤ 50000) :
    Calls Try.prog 26 #[.slice A n c, .int .i64 y] w fun e w' => ∃ A' c', e = .returned (.slice A' (needs xs y).length c') ∧ Own w' w.heap.size (.slice A' (needs xs y).length c') (needs xs y) ∧ Below w.heap.size w w' := by
  obtain rfl := h.len
  have hl6 := rec_len hg
  have HG := Lib.hid hg
  clear hg
  have ho0 := Own.empty (w := w) (Nat.le_refl _)
  have hb0 : Below w.heap.size w (w.alloc (.cells #[] 3)) := (Below.refl _ _).alloc (Nat.le_refl _) _
  go_enter Try.func26, Try.ntmps26
  go_wp2
  go_loopw [5, 6] (fun s i wr => ∃ (k : Nat) (A' : Option Addr) (c' : Nat), k ≤ xs.length ∧ i = .int .i64 k ∧ s = .slice A' k c' ∧ Own wr w.heap.size (.slice A' k c') ((needs xs y).take k) ∧ Below w.heap.size w wr) (fun _ i _ => xs.length - (intOf i).toNat)
  case atStart => exact ⟨0, _, _, Nat.zero_le _, rfl, rfl, ho0, hb0⟩
  case round =>
    obtain ⟨k, A', c', hk, rfl, rfl, hown, hb⟩ := hrel
    by_cases hlt : k < xs.length
    · have hzz := hb.size
      obtain ⟨b, off, a, rfl, hbB, _, HX, hc0, hc1⟩ := DyePartR_at (F := dyePartF) rfl (fun _ => rfl) (fun _ => rfl) (h.all hb hB) hlt
      obtain ⟨_, hp0, hp1⟩ := part_at HG.out HX.out
      have HN := Lib.hid (needs_at (y := y) HX.out)
      have HT := Lib.hid (show (needs xs y).take (k + 1) = (needs xs y).take k ++ [needI a y] by
        obtain ⟨hi, e⟩ := List.getElem?_eq_some_iff.1 HN.out
        rw [List.take_succ_eq_append_getElem hi, e])
      have hm := mul_bd (show (0 : Int) ≤ a.f1 by omega) hp1 hy0 hy1
      have hnb := needI_bd hp0 hp1 hy0 hy1
      have em : IntKind.i64.wrap (a.f1 * y) = a.f1 * y := IntWalk.i64_in _ (by omega)
      have ea : IntKind.i64.wrap (a.f1 * y + 999) = a.f1 * y + 999 := IntWalk.i64_in _ (by omega)
      have ed : Int.tdiv (a.f1 * y + 999) 1000 = needI a y := by unfold needI; exact Int.tdiv_eq_ediv_of_nonneg (by omega)
      have eq : IntKind.i64.wrap (needI a y) = needI a y := IntWalk.i64_in _ (by omega)
      have hlen : ((needs xs y).take k).length = k := by rw [List.length_take, needs_len]; omega
      have hki : (0 : Int) ≤ (k : Int) := by omega
      have hkn : (k : Int) < (xs.length : Int) := by omega
      generalize (needs xs y).take k = T at *
      go_wp2_with (at_builtin; refine wpList_append_one wr rfl (.tmp 14) (.tmp 24) 25 rfl Try.underlying25 info_int w.heap.size _ T (needI a y) rfl rfl hown (by omega) ⟨by omega, by omega⟩ hzz ?_)
      intro A2 c2 w2 ho2 hg2
      have hb2 := hb.grown hg2 hzz (fun q hq => (hown.bd q hq).1)
      (try rw [hlen] at ho2 ⊢)
      clear hown hg2 hb hc0 hc1
      go_wp2
      go_roundw
      case rel => exact ⟨k + 1, A2, c2, by omega, by go_num, rfl, by rw [HT.out]; exact ho2, hb2⟩
      case measure => simp [intOf]; omega
    · obtain rfl : k = xs.length := by omega
      rw [List.take_of_length_le (by rw [needs_len]; omega)] at hown
      go_wp2
      go_ret
      exact ⟨A', c', by rw [needs_len]; rfl, by rw [needs_len]; exact hown, hb⟩
/-- What NeedsFor tells. -/
noncomputable def needsForB (xs : List DyePartR) (y : Int) : Bool := recB xs && gramB y
noncomputable def needsForL (xs : List DyePartR) (y : Int) : List Int := if needsForB xs y = true then needs xs y else []
theorem needsFor_len (xs : List DyePartR) (y : Int) : (needsForL xs y).length ≤ 100000 := by
  unfold needsForL
  split
  · next h =>
    simp only [needsForB, Bool.and_eq_true] at h
    have := rec_len h.1
    rw [needs_len]
    omega
  · simp
set_option maxRecDepth 100000 in
set_option maxHeartbeats 1000000 in
theorem implNeedsFor_any (A : Option Addr) (n c B : Nat) (xs : List DyePartR) (y : Int) (w : World) (h : RdF dyePartF w B A n c xs) (hB : B ≤ w.heap.size) :
    Calls Try.prog 14 #[.slice A n c, .int .i64 y] w (OutInts w (needsForL xs y) (needsForB xs y)) := by
  cases hr : recB xs
  case false =>
    have H := Lib.hid (show needsForB xs y = false by simp [needsForB, hr])
    have H2 := Lib.hid (show needsForL xs y = [] by simp [needsForL, H.out])
    rw [H.out, H2.out]
    go_enter Try.func14, Try.ntmps14
    go_wp2_with fail
    refine (implIsRecipe_any A n c B xs _ h hB).mono ?_
    rintro e w1 ⟨rfl, hb⟩
    rw [hr]
    go_wp2
    go_ret2
    exact ⟨none, 0, rfl, Own.nil _ _, hb⟩
  cases hg : gramB y
  case false =>
    have H := Lib.hid (show needsForB xs y = false by simp [needsForB, hg])
    have H2 := Lib.hid (show needsForL xs y = [] by simp [needsForL, H.out])
    rw [H.out, H2.out]
    go_enter Try.func14, Try.ntmps14
    go_wp2_with fail
    refine (implIsRecipe_any A n c B xs _ h hB).mono ?_
    rintro e w1 ⟨rfl, hb⟩
    rw [hr]
    go_wp2_with ((go_at_call 28; (with_reducible refine (isGrams_any _ _).mono ?_); rintro e w' ⟨rfl, rfl⟩))
    go_ret2
    exact ⟨none, 0, rfl, Own.nil _ _, hb⟩
  have H := Lib.hid (show needsForB xs y = true by simp [needsForB, hr, hg])
  have H2 := Lib.hid (show needsForL xs y = needs xs y by simp [needsForL, H.out])
  have hy := inB_yes hg
  rw [H.out, H2.out]
  go_enter Try.func14, Try.ntmps14
  go_wp2_with fail
  refine (implIsRecipe_any A n c B xs _ h hB).mono ?_
  rintro e w1 ⟨rfl, hb⟩
  have hR := h.all hb hB
  have hz := hb.size
  have HRR := Lib.hid hr
  rw [hr]
  go_wp2_with ((go_at_call 28; (with_reducible refine (isGrams_any _ _).mono ?_); rintro e w' ⟨rfl, rfl⟩))
  refine (needsOf_any A n c B xs y _ hR (by omega) HRR.out hy.1 hy.2).mono ?_
  rintro e w2 ⟨g, rfl, ho, hb2⟩
  go_wp2
  go_ret2
  exact ⟨_, _, rfl, ho.mono hz, hb.trans (hb2.mono hz)⟩
set_option maxRecDepth 100000 in
set_option maxHeartbeats 1000000 in
theorem specNeedsFor_any (A : Option Addr) (n c B : Nat) (xs : List DyePartR) (y : Int) (w : World) (h : RdF dyePartF w B A n c xs) (hB : B ≤ w.heap.size) :
    Calls Try.prog 15 #[.slice A n c, .int .i64 y] w (OutInts w (needsForL xs y) (needsForB xs y)) := by
  cases hr : recB xs
  case false =>
    have H := Lib.hid (show needsForB xs y = false by simp [needsForB, hr])
    have H2 := Lib.hid (show needsForL xs y = [] by simp [needsForL, H.out])
    rw [H.out, H2.out]
    go_enter Try.func15, Try.ntmps15
    go_wp2_with fail
    refine (l7Good_any A n c B xs _ h hB).mono ?_
    rintro e w1 ⟨rfl, hb⟩
    rw [hr]
    go_wp2
    go_ret2
    exact ⟨_, 0, rfl, Own.empty hb.size, hb.alloc hb.size _⟩
  cases hg : gramB y
  case false =>
    have H := Lib.hid (show needsForB xs y = false by simp [needsForB, hg])
    have H2 := Lib.hid (show needsForL xs y = [] by simp [needsForL, H.out])
    rw [H.out, H2.out]
    go_enter Try.func15, Try.ntmps15
    go_wp2_with fail
    refine (l7Good_any A n c B xs _ h hB).mono ?_
    rintro e w1 ⟨rfl, hb⟩
    rw [hr]
    go_wp2_with ((go_at_call 32; (with_reducible refine (l7Grams_any _ _).mono ?_); rintro e w' ⟨rfl, rfl⟩))
    go_ret2
    exact ⟨_, 0, rfl, Own.empty hb.size, hb.alloc hb.size _⟩
  have H := Lib.hid (show needsForB xs y = true by simp [needsForB, hr, hg])
  have H2 := Lib.hid (show needsForL xs y = needs xs y by simp [needsForL, H.out])
  have hy := inB_yes hg
  rw [H.out, H2.out]
  go_enter Try.func15, Try.ntmps15
  go_wp2_with fail
  refine (l7Good_any A n c B xs _ h hB).mono ?_
  rintro e w1 ⟨rfl, hb⟩
  have hR := h.all hb hB
  have hz := hb.size
  have HRR := Lib.hid hr
  rw [hr]
  go_wp2_with ((go_at_call 32; (with_reducible refine (l7Grams_any _ _).mono ?_); rintro e w' ⟨rfl, rfl⟩))
  refine (l7Needs_any A n c B xs y _ hR (by omega) HRR.out hy.1 hy.2).mono ?_
  rintro e w2 ⟨A2, c2, rfl, ho, hb2⟩
  go_wp2
  go_ret2
  exact ⟨_, _, rfl, ho.mono hz, hb.trans (hb2.mono hz)⟩
end Go.Proofs.Ytjlidgeeehlkcaa
