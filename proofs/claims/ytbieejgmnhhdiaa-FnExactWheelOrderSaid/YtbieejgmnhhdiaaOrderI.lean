/- The walk of the program's WheelOrder. No condition. -/
import Derived.Test.YtbieejgmnhhdiaaOrderDo
import Derived.Test.YtbieejgmnhhdiaaOrderZero
import Derived.Test.YtbieejgmnhhdiaaCard
namespace Go.Proofs.Ytbieejgmnhhdiaa
open Go.RowKit

theorem cloneS_any (A : Option Addr) (n c B : Nat) (xs : List ShadeR) (w : World) (h : RdF shadeF w B A n c xs) (hB : B ≤ w.heap.size) (hn : n ≤ 1000) :
    Calls Try.prog 41 #[.slice A n c] w fun e w' => ∃ A' c', e = .returned (.slice A' xs.length c') ∧ OwnF shadeF w' w.heap.size (.slice A' xs.length c') xs ∧ Below w.heap.size w w' := by
  obtain rfl := h.len
  cases xs with
  | nil => exact clone0_any A c B w h hB
  | cons x xs =>
    obtain ⟨b, off, rfl, _⟩ := h.cells (by simp)
    refine (cloneShades_any b off _ c B (x :: xs) w h hB (by simp) hn).mono ?_
    rintro e w' ⟨g, c', rfl, ho, hb⟩
    exact ⟨_, c', rfl, ho, hb⟩
theorem sortS_any (P : Nat) (fr : Int) (A : Option Addr) (c lo : Nat) (ys : List ShadeR) (w : World) (hf : Step fr) (h : ∀ a ∈ ys, Step a.f2 ∧ Deep a.f3) (ho : OwnF shadeF w lo (.slice A ys.length c) ys)
    (hP : w.cell? ⟨P, 0, none⟩ = some (.int .i64 fr)) (hPl : P < lo) (h12 : ys.length ≤ 12) :
    Calls Try.prog 42 #[.slice A ys.length c, .func (.func 43) #[] #[.pointer (some ⟨P, 0, none⟩)]] w
      fun e w' => e = .returned (.tuple #[]) ∧ ∃ zs : List ShadeR, zs.Perm ys ∧ zs.Pairwise (fun a b => ¬ cmpI fr b a < 0) ∧ RdF shadeF w' w'.heap.size A ys.length c zs ∧ ∃ row, w.grownBy w' row ∧ ∀ k, row = some k → lo ≤ k := by
  cases ys with
  | nil =>
    refine (sort0_any A c _ w).mono ?_
    rintro e w' ⟨rfl, rfl⟩
    exact ⟨rfl, [], List.Perm.refl _, List.Pairwise.nil, ho.rd, none, World.grownBy.refl _ _, fun k hk => by cases hk⟩
  | cons y ys =>
    obtain ⟨g, rfl, hg, _⟩ := ho.some_ (by simp)
    refine (sortShades_any P fr g c lo (y :: ys) w hf h ho hP hPl h12).mono ?_
    rintro e w' ⟨rfl, zs, hp, hs, hr, hgw⟩
    exact ⟨rfl, zs, hp, hs, hr, _, hgw, fun k hk => by cases hk; exact hg⟩
set_option maxRecDepth 100000 in
set_option maxHeartbeats 8000000 in
theorem implWheelOrder_any (A : Option Addr) (n c B : Nat) (xs : List ShadeR) (fr : Int) (w : World) (h : RdF shadeF w B A n c xs) (hB : B ≤ w.heap.size) :
    Calls Try.prog 18 #[.slice A n c, .int .i64 fr] w (OutInts w (orderX xs fr) (orderOk xs fr)) := by
  have hn := h.len_lt
  have hcap := h.cap
  obtain rfl := h.len
  have h0 := h.alloc hB (.cells #[.int .i64 fr] 3)
  have hb0 := (Below.refl w.heap.size w).alloc (Nat.le_refl _) (.cells #[.int .i64 fr] 3)
  have hB0 : B ≤ (w.alloc (.cells #[.int .i64 fr] 3)).heap.size := by simp; omega
  have xP := Blk.new w #[.int .i64 fr] 3
  by_cases h1 : cardB xs = true
  rotate_left
  · have hno := not_false h1
    have H := Lib.hid (order_no (xs := xs) (fr := fr) (.inl hno))
    go_enter Try.func18, Try.ntmps18
    go_wp2_with fail
    refine (implIsShadeCard_any A xs.length c B xs _ h0 hB0).mono ?_
    rintro e w1 ⟨rfl, hb⟩
    rw [hno]
    replace xP := xP.all hb
    have ex := xP.cell 0
    go_wp2
    go_ret2
    rw [H.out.1, H.out.2]
    exact ⟨none, 0, rfl, Own.nil _ _, hb0.trans (hb.mono (by simp))⟩
  by_cases h2 : inB fr 0 23 = true
  rotate_left
  · have hno := not_false h2
    have H := Lib.hid (order_no (xs := xs) (fr := fr) (.inr hno))
    go_enter Try.func18, Try.ntmps18
    go_wp2_with fail
    refine (implIsShadeCard_any A xs.length c B xs _ h0 hB0).mono ?_
    rintro e w1 ⟨rfl, hb⟩
    rw [h1]
    replace xP := xP.all hb
    have ex := xP.cell 0
    go_wp2_with fail
    refine (isStep_any _ _).mono ?_
    rintro e w2 ⟨rfl, rfl⟩
    rw [hno]
    go_wp2
    go_ret2
    rw [H.out.1, H.out.2]
    exact ⟨none, 0, rfl, Own.nil _ _, hb0.trans (hb.mono (by simp))⟩
  have hfr : Step fr := inB_yes h2
  have hl10 : xs.length ≤ 10 := (cardB_of h1).1
  have hRes := Lib.hid (order_yes h1 h2)
  have HSH : Hid (∀ (k : Nat) (a : ShadeR), xs[k]? = some a → Fine a) := fun k a ha => card_fine h1 ha
  have HC := Lib.hid h1
  go_enter Try.func18, Try.ntmps18
  go_wp2_with fail
  refine (implIsShadeCard_any A xs.length c B xs _ h0 hB0).mono ?_
  rintro e w1 ⟨rfl, hb⟩
  rw [h1]
  replace xP := xP.all hb
  replace h0 := h0.all hb hB0
  have HB1 := hb0.trans (hb.mono (by simp))
  have hz1 : w.heap.size < w1.heap.size := xP.lt
  have hB1 : B ≤ w1.heap.size := by omega
  clear hb hb0 hB0 h1
  have ex := xP.cell 0
  go_wp2_with fail
  refine (isStep_any _ _).mono ?_
  rintro e w2 ⟨rfl, rfl⟩
  rw [h2]
  clear h2
  go_wp2_with fail
  refine (cloneS_any A xs.length c B xs _ h0 hB1 (by omega)).mono ?_
  rintro e w2 ⟨A2, c2, rfl, ho, hb⟩
  replace xP := xP.all hb
  replace HB1 := HB1.trans (hb.mono HB1.size)
  clear hb h0 ex hB1
  go_wp2_with fail
  refine (sortS_any w.heap.size fr A2 c2 w1.heap.size xs _ hfr (fun a ha => by
    obtain ⟨i, hi, rfl⟩ := List.getElem_of_mem ha
    exact HSH.out i _ (List.getElem?_eq_getElem hi)) ho (xP.cell 0) hz1 (by omega)).mono ?_
  rintro e w3 ⟨rfl, zs, hp, hs, hr, row, hg, hrow⟩
  have HB3 := HB1.grown hg HB1.size (fun k hk => Nat.le_trans (Nat.le_of_lt hz1) (hrow k hk))
  have HI := Lib.hid (order_unique HC.out hp hs)
  have hzl : zs.length = xs.length := hp.length_eq
  have hzI : Hid (∀ x ∈ zs.map ShadeR.f0, I64 x) := Lib.hid fun x hx => by
    obtain ⟨a, ha, rfl⟩ := List.mem_map.1 hx
    exact (hr.fits a ha).1
  have hz3 : w.heap.size ≤ w3.heap.size := HB3.size
  clear ho xP HB1 hp hs hg hrow HSH HC hz1 hfr
  obtain ⟨i0, hi, hz0, hz1, hz2⟩ := info_parts info_int
  go_wp2_with (at_make; refine wpList_make_full _ rfl _ _ 36 rfl w.heap.size 3 i0 (.int .i64 0) 1 Try.underlying36 hi hz0 hz1 _ _ _ _ xs.length rfl rfl rfl rfl (by rw [hz2]; omega) (by unfold maxLen; omega) hz3 ?_)
  intro w4 hown4 hgrow4
  have hz4 : w3.heap.size < w4.heap.size := (hown4.lt _ rfl).2
  have HB4 := HB3.grown hgrow4 HB3.size (fun k hk => by cases hk)
  have hr4 := hr.mark hgrow4 (fun k hk => by cases hk) (Nat.le_refl _)
  clear HB3 hr hgrow4
  go_wp2
  go_loopw [28] (fun i wr => ∃ (k : Nat) (ys : List Int), k ≤ xs.length ∧ i = .int .i64 k ∧ ys.length = xs.length ∧ ys.take k = (zs.map ShadeR.f0).take k ∧
      wr.ownsRow w.heap.size 3 1 (.slice (some ⟨w3.heap.size, 0, none⟩) xs.length xs.length) xs.length (ys.map (Value.int .i64)) ∧ Below w.heap.size w wr ∧ RdF shadeF wr w3.heap.size A2 xs.length c2 zs)
    (fun i _ => xs.length - (intOf i).toNat)
  case atStart => exact ⟨0, List.replicate xs.length 0, Nat.zero_le _, rfl, by simp, by simp, by simpa [toList_madeCells_one, List.map_replicate] using hown4, HB4, hr4⟩
  case round =>
    obtain ⟨k, ys, hk, rfl, hyl, hyt, hown, hb, hrd⟩ := hrel
    by_cases hlt : k < xs.length
    · obtain ⟨b, off, a, rfl, hbB, oka, HX, hc0, hc1, hc2, hc3, hc4⟩ := ShadeR_at (F := shadeF) rfl (fun _ => rfl) (fun _ => rfl) hrd hlt
      obtain ⟨y, hy⟩ : ∃ y, wr.cell? ⟨w3.heap.size, k, none⟩ = some y := ⟨.int .i64 (ys.getD k 0), by rw [hown.cellAt k (by omega), List.getElem?_map, List.getElem?_eq_getElem (by omega), getD_at (by omega)]; rfl⟩
      have hf := hown.frozenAt k
      have hzr : w3.heap.size < wr.heap.size := (hown.lt _ rfl).2
      have HO := Lib.hid (row_all ((hown.stored k (.int .i64 a.f0)).1) ((Below.refl _ _).alloc (Nat.le_refl _) (.cells #[.int .i64 a.f0, .string a.f1, .int .i64 a.f2, .int .i64 a.f3, .int .i64 a.f4] 47)))
      have HY := Lib.hid (take_step (a := a.f0) (by rw [List.getElem?_map, HX.out]; rfl) (by rw [List.length_map, hzl, hyl]) hyt)
      have HL := Lib.hid hyl
      clear hyl hyt hown
      go_wp2
      go_roundw
      case rel => exact ⟨k + 1, ys.set k a.f0, by omega, by go_num, by rw [List.length_set]; exact HL.out, HY.out, by rw [List.map_set]; exact HO.out, (hb.setCell (p := ⟨w3.heap.size, k, none⟩) (by show w.heap.size ≤ w3.heap.size; omega) _).alloc (by simp; omega) _, (hrd.keep (w' := wr.setCell ⟨w3.heap.size, k, none⟩ (.int .i64 a.f0)) fun b' o' hb' => (by rw [World.cell?_setCell_other]; exact fun e => by cases e; omega)).alloc (by simp; omega) _⟩
      case measure => simp [intOf]; omega
    · go_wp2
      go_ret2
      have e : ys = orderX xs fr := by
        rw [List.take_of_length_le (by omega), List.take_of_length_le (by rw [List.length_map]; omega)] at hyt
        rw [hyt, HI.out, hRes.out.1]
      have hl : (orderX xs fr).length = xs.length := by rw [← e]; exact hyl
      subst e
      rw [hRes.out.2]
      refine ⟨_, xs.length, ?_, ⟨by rw [hl]; exact hown, by rw [hRes.out.1, ← HI.out]; exact hzI.out⟩, hb⟩
      rw [hl]
      rfl
end Go.Proofs.Ytbieejgmnhhdiaa
