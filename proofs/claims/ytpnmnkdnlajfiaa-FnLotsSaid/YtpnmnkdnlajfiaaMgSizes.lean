/- Several texts of this proof in one: SizeMath, Sizes, SizesI. No condition. -/
import Derived.Test.YtpnmnkdnlajfiaaAreaIs
import Derived.Test.YtpnmnkdnlajfiaaAreaTop
namespace Go.Proofs.Ytpnmnkdnlajfiaa
open Go.RowKit

/-- How many of the first i places lie in area a. -/
noncomputable def cntTo (m : Nat) (xs : List Int) (a i : Nat) : Nat := ((labsOf m xs).take i).count (a : Int)
noncomputable def szA (m : Nat) (xs : List Int) (a : Nat) : Nat := (labsOf m xs).count (a : Int)
open Classical in
noncomputable def colA (m : Nat) (xs : List Int) (a : Nat) : Int := if h : ∃ x, x < xs.length ∧ labAt m xs x = (a : Int) then xs.getD (Classical.choose h) 0 else 0
theorem colA_eq {m a x : Nat} {xs : List Int} (hx : x < xs.length) (ha : labAt m xs x = (a : Int)) : colA m xs a = xs.getD x 0 := by
  have h : ∃ x, x < xs.length ∧ labAt m xs x = (a : Int) := ⟨x, hx, ha⟩
  unfold colA
  rw [dif_pos h]
  have hs := Classical.choose_spec h
  exact labAt_col hs.1 hx (hs.2.trans ha.symm)
theorem cntTo_zero (m : Nat) (xs : List Int) (a : Nat) : cntTo m xs a 0 = 0 := by simp [cntTo]
theorem cntTo_succ {m a i : Nat} {xs : List Int} (hi : i < xs.length) : cntTo m xs a (i + 1) = cntTo m xs a i + if labAt m xs i = (a : Int) then 1 else 0 := by
  have hl : i < (labsOf m xs).length := by rw [labs_len]; exact hi
  unfold cntTo labAt
  rw [List.take_succ_eq_append_getElem hl, List.count_append, getD_at hl, List.count_singleton]
  simp
theorem cntTo_end {m a i : Nat} {xs : List Int} (hi : xs.length ≤ i) : cntTo m xs a i = szA m xs a := by
  unfold cntTo szA
  rw [List.take_of_length_le (by rw [labs_len]; exact hi)]
theorem cntTo_le (m a i : Nat) (xs : List Int) : cntTo m xs a i ≤ xs.length := by
  unfold cntTo
  have h1 := List.count_le_length (a := (a : Int)) (l := (labsOf m xs).take i)
  have h2 : ((labsOf m xs).take i).length ≤ (labsOf m xs).length := by rw [List.length_take]; omega
  rw [labs_len] at h2
  omega
theorem szA_le (m a : Nat) (xs : List Int) : szA m xs a ≤ xs.length := by
  rw [← cntTo_end (Nat.le_refl _)]; exact cntTo_le _ _ _ _
theorem nodup_perm_len {l l' : List Nat} (h : l.Nodup) (h' : l'.Nodup) (he : ∀ x, x ∈ l ↔ x ∈ l') : l.length = l'.length := by
  induction l generalizing l' with
  | nil =>
    cases l' with
    | nil => rfl
    | cons a l' => exact absurd ((he a).2 (by simp)) (by simp)
  | cons a l ih =>
    have ha : a ∈ l' := (he a).1 (by simp)
    obtain ⟨hal, hl⟩ := List.nodup_cons.1 h
    have := ih hl (h'.erase a) (fun x => by
      rw [h'.mem_erase_iff, ← he x, List.mem_cons]
      constructor
      · intro hx
        exact ⟨fun e => hal (e ▸ hx), .inr hx⟩
      · rintro ⟨h1, h2 | h2⟩
        · exact absurd h2 h1
        · exact h2)
    rw [List.length_cons, this, List.length_erase_of_mem ha]
    have := List.length_pos_of_mem ha
    omega
/-- The places of an area are as many as its size. -/
theorem len_of_area {m a : Nat} {xs : List Int} {l : List Nat} (hd : l.Nodup) (hl : ∀ x, x ∈ l ↔ x < xs.length ∧ labAt m xs x = (a : Int)) : l.length = szA m xs a := by
  have key : ∀ i, i ≤ xs.length → cntTo m xs a i = ((List.range i).filter fun x => decide (labAt m xs x = (a : Int))).length := by
    intro i
    induction i with
    | zero => intro _; simp [cntTo]
    | succ i ih =>
      intro hi
      rw [cntTo_succ (by omega), ih (by omega), List.range_succ, List.filter_append, List.length_append]
      by_cases e : labAt m xs i = (a : Int) <;> simp [e]
  rw [← cntTo_end (Nat.le_refl _), key _ (Nat.le_refl _)]
  refine nodup_perm_len hd (List.nodup_iff_pairwise_ne.2 (List.Pairwise.filter _ (List.nodup_iff_pairwise_ne.1 List.nodup_range))) fun x => ?_
  rw [hl x]
  simp
/-- The sizes of the areas with a color among the first a ones. -/
noncomputable def sizesTo (m : Nat) (xs : List Int) (color : Int) (a : Nat) : List Int := ((List.range a).filter fun a => decide (colA m xs a = color)).map fun (a : Nat) => ((szA m xs a : Nat) : Int)
theorem sizesTo_zero (m : Nat) (xs : List Int) (color : Int) : sizesTo m xs color 0 = [] := rfl
theorem sizesTo_yes {m a : Nat} {xs : List Int} {color : Int} (h : colA m xs a = color) : sizesTo m xs color (a + 1) = sizesTo m xs color a ++ [((szA m xs a : Nat) : Int)] := by
  unfold sizesTo
  rw [List.range_succ, List.filter_append, List.map_append, List.filter_cons, if_pos (by simp [h])]
  rfl
theorem sizesTo_no {m a : Nat} {xs : List Int} {color : Int} (h : ¬ colA m xs a = color) : sizesTo m xs color (a + 1) = sizesTo m xs color a := by
  unfold sizesTo
  rw [List.range_succ, List.filter_append, List.map_append, List.filter_cons, if_neg (by simp [h])]
  simp
theorem sizesTo_len (m : Nat) (xs : List Int) (color : Int) (a : Nat) : (sizesTo m xs color a).length ≤ a := by
  unfold sizesTo
  rw [List.length_map]
  exact Nat.le_trans (List.length_filter_le _ _) (by simp)
noncomputable def sizesL (m : Nat) (xs : List Int) (color : Int) : List Int := sizesTo m xs color (cntOf m xs)
def sizesOk (W H : Int) (xs : List Int) (color : Int) : Bool := goodB W H xs && isColorB color
noncomputable def sizesX (W H : Int) (xs : List Int) (color : Int) : List Int := if sizesOk W H xs color = true then sizesL W.toNat xs color else []
theorem sizesX_yes {m k : Nat} {xs : List Int} {color : Int} (h : sizesOk m k xs color = true) : sizesX m k xs color = sizesL m xs color := if_pos h
theorem sizesX_no {W H : Int} {xs : List Int} {color : Int} (h : sizesOk W H xs color = false) : sizesX W H xs color = [] := if_neg (by rw [h]; decide)
theorem sizesL_len (m : Nat) (xs : List Int) (color : Int) : (sizesL m xs color).length ≤ xs.length := Nat.le_trans (sizesTo_len _ _ _ _) (cnt_le _ _)
theorem sizesX_len (W H : Int) (xs : List Int) (color : Int) : (sizesX W H xs color).length ≤ 1048576 := by
  cases hg : sizesOk W H xs color with
  | false => rw [sizesX_no hg]; simp
  | true =>
    have h1 : goodB W H xs = true := by simp only [sizesOk, Bool.and_eq_true] at hg; exact hg.1
    have := (good_bd h1).1
    rw [show sizesX W H xs color = sizesL W.toNat xs color from if_pos hg]
    have := sizesL_len W.toNat xs color
    omega
theorem sizesL_rng {m : Nat} {xs : List Int} {color : Int} : ∀ y ∈ sizesL m xs color, 0 ≤ y ∧ y ≤ (xs.length : Int) := by
  intro y hy
  obtain ⟨a, _, rfl⟩ := List.mem_map.1 hy
  have := szA_le m a xs
  omega
end Go.Proofs.Ytpnmnkdnlajfiaa
namespace Go.Proofs.Ytpnmnkdnlajfiaa
open Go.RowKit

theorem mkI (w : World) (m : Nat) (hm : m ≤ 4000) : (Instr.makeSlice 24 (.int .i64 (m : Int)) (.int .i64 (m : Int))).run Try.prog w = .ok (.slice (some ⟨w.heap.size, 0, none⟩) m m) (w.alloc (.cells (madeCells #[.int .i64 0] m) 3)) := by
  obtain ⟨i0, hi, hz0, hz1, hz2⟩ := info_parts info_int
  have h := run_make w 24 3 i0 (.int .i64 0) Try.underlying24 hi hz0 .i64 .i64 (m : Int) (m : Int) (by omega) (by omega) (by rw [hz2]; omega) (by omega)
  rw [hz1, Int.toNat_natCast, Nat.mul_one] at h
  exact h
theorem own_made {w : World} {lo P m : Nat} (hP : w.heap.size = P) (hlo : lo ≤ P) (hm : m ≤ 4000) : Own (w.alloc (.cells (madeCells #[.int .i64 0] m) 3)) lo (.slice (some ⟨P, 0, none⟩) m m) (List.replicate m 0) := by
  subst hP
  have hl : ((List.replicate m (0 : Int)).map (Value.int .i64)).toArray = madeCells #[.int .i64 0] m := by
    rw [← Array.toList_inj]
    simp only [toList_madeCells_one, List.map_replicate]
  have := blk_own (w := w.alloc (.cells (madeCells #[.int .i64 0] m) 3)) (lo := lo) (g := w.heap.size) (xs := List.replicate m (0 : Int)) (by rw [hl]; exact Blk.new w _ _) hlo (by rw [List.length_replicate]; unfold maxLen; omega) (fun x hx => by rw [List.mem_replicate] at hx; rw [hx.2]; exact ⟨by omega, by omega⟩)
  rw [List.length_replicate] at this
  exact this
/-- The sizes and colors after i places. -/
structure SzOk (m : Nat) (xs : List Int) (i : Nat) (S C : List Int) : Prop where
  ls : S.length = cntOf m xs
  lc : C.length = cntOf m xs
  s : ∀ a, a < cntOf m xs → S.getD a 0 = ((cntTo m xs a i : Nat) : Int)
  c : ∀ a, a < cntOf m xs → (∃ x, x < i ∧ x < xs.length ∧ labAt m xs x = (a : Int)) → C.getD a 0 = colA m xs a
theorem SzOk.start (m : Nat) (xs : List Int) : SzOk m xs 0 (List.replicate (cntOf m xs) 0) (List.replicate (cntOf m xs) 0) :=
  ⟨by simp, by simp, fun a ha => by rw [cntTo_zero, List.getD_eq_getElem?_getD, List.getElem?_replicate, if_pos ha]; rfl, fun a _ ⟨x, h, _⟩ => by omega⟩
theorem getD_set_self {L : List Int} {a : Nat} {v : Int} (h : a < L.length) : (L.set a v).getD a 0 = v := by rw [List.getD_eq_getElem?_getD, List.getElem?_set_self h]; rfl
theorem getD_set_ne {L : List Int} {a b : Nat} {v : Int} (h : b ≠ a) : (L.set a v).getD b 0 = L.getD b 0 := by rw [List.getD_eq_getElem?_getD, List.getElem?_set_ne (fun e => h e.symm), ← List.getD_eq_getElem?_getD]
theorem SzOk.step {m i a : Nat} {xs S C : List Int} {v cv : Int} (h : SzOk m xs i S C) (hi : i < xs.length) (ha : labAt m xs i = (a : Int)) (hv : S.getD a 0 = v) (hc : xs.getD i 0 = cv) : SzOk m xs (i + 1) (S.set a (v + 1)) (C.set a cv) := by
  have hac : a < cntOf m xs := by have := (labAt_rng (m := m) hi).2; omega
  refine ⟨by rw [List.length_set]; exact h.ls, by rw [List.length_set]; exact h.lc, fun b hb => ?_, fun b hb hx => ?_⟩
  · rw [cntTo_succ hi]
    by_cases e : b = a
    · subst e
      rw [getD_set_self (by rw [h.ls]; exact hb), if_pos ha, ← hv, h.s b hb]; omega
    · rw [getD_set_ne e, if_neg (by rw [ha]; omega), h.s b hb]; omega
  · by_cases e : b = a
    · subst e
      rw [getD_set_self (by rw [h.lc]; exact hb), ← hc]
      exact (colA_eq hi ha).symm
    · rw [getD_set_ne e]
      refine h.c b hb ?_
      obtain ⟨x, h1, h2, h3⟩ := hx
      refine ⟨x, ?_, h2, h3⟩
      have : x ≠ i := fun e' => by subst e'; rw [ha] at h3; omega
      omega
theorem SzOk.end_ {m i : Nat} {xs S C : List Int} (h : SzOk m xs i S C) (hi : xs.length ≤ i) : ∀ a, a < cntOf m xs → S.getD a 0 = ((szA m xs a : Nat) : Int) ∧ C.getD a 0 = colA m xs a := by
  intro a ha
  refine ⟨by rw [h.s a ha, cntTo_end hi], h.c a ha ?_⟩
  obtain ⟨x, h1, h2⟩ := labAt_all (m := m) ha
  exact ⟨x, by omega, h1, h2⟩
/-- What l12Sizes leaves. -/
def SizesOut (w : World) (m : Nat) (xs : List Int) (e : Ending) (w' : World) : Prop :=
  ∃ (A C : Option Addr) (ca cc : Nat) (S K : List Int), e = .returned (.tuple #[.slice A (cntOf m xs) ca, .slice C (cntOf m xs) cc]) ∧ Own w' w.heap.size (.slice A (cntOf m xs) ca) S ∧ Own w' w.heap.size (.slice C (cntOf m xs) cc) K ∧ Below w.heap.size w w' ∧
    Hid (S.length = cntOf m xs ∧ K.length = cntOf m xs ∧ ∀ a, a < cntOf m xs → S.getD a 0 = ((szA m xs a : Nat) : Int) ∧ K.getD a 0 = colA m xs a)
set_option maxRecDepth 100000 in
set_option maxHeartbeats 8000000 in
theorem l12Sizes_any (m k b off c B : Nat) (xs : List Int) (w : World) (h : Rd w B (some ⟨b, off, none⟩) xs.length c xs) (hB : B ≤ w.heap.size) (hm : 1 ≤ m) (hm8 : m ≤ 8) (hk1 : 1 ≤ k) (hk8 : k ≤ 8) (hl : Hid (xs.length = m * k)) :
    Calls Try.prog 37 #[chartV m k (.slice (some ⟨b, off, none⟩) xs.length c)] w (SizesOut w m xs) := by
  have h64 : xs.length ≤ 64 := by have := Nat.mul_le_mul hm8 hk8; rw [hl.out]; omega
  have hN1 : 1 ≤ xs.length := by have := Nat.mul_le_mul hm hk1; rw [hl.out]; omega
  have hcn : cntOf m xs ≤ 64 := Nat.le_trans (cnt_le m xs) h64
  have hfx := h.fits
  have x0 := Cx.start (m := m) (k := k) h hB
  have HSZ := Lib.hid (SzOk.start m xs)
  have HLL := Lib.hid (labs_len m xs)
  clear h
  go_enter Try.func37, Try.ntmps37
  go_upto_region 1 with fail
  generalize w.alloc (.cells #[.int .i64 m, .int .i64 k, .slice (some ⟨b, off, none⟩) xs.length c] 26) = w0 at *
  have e0 := x0.c0
  have e1 := x0.c1
  have e2 := x0.c2
  have hz0 := x0.sz
  go_wp2_with fail
  refine (l12Areas_any m k b off c B xs _ x0.rd (by omega) hm hm8 hk1 hk8 hl).mono ?_
  rintro e w1 ⟨A1, c1, rfl, own1, hb1, _⟩
  have x1 := x0.all hb1
  have own2 := own1.mono hz0
  obtain ⟨g1, rfl, hg1, hg1b⟩ := own2.some_ (by rw [HLL.out]; omega)
  clear own1 hb1 x0 e0 e1 e2 hz0
  obtain ⟨n, HN⟩ : ∃ n, Hid (cntOf m xs = n) := ⟨_, rfl⟩
  rw [show cntOf m xs = n from HN.out] at hcn HSZ ⊢
  have hz1 := x1.sz
  go_upto_region 2 with fail
  go_cut [6, 7] from 15 to 18 (fun s6 s7 wx => ∃ (p q : Nat), s6 = .slice (some ⟨p, 0, none⟩) n n ∧ s7 = .slice (some ⟨q, 0, none⟩) n n ∧ p ≠ q ∧ p ≠ g1 ∧ q ≠ g1 ∧ w.heap.size + 1 ≤ p ∧ w.heap.size + 1 ≤ q ∧ Own wx (w.heap.size + 1) (.slice (some ⟨p, 0, none⟩) n n) (List.replicate n 0) ∧ Own wx (w.heap.size + 1) (.slice (some ⟨q, 0, none⟩) n n) (List.replicate n 0) ∧ Below w1.heap.size w1 wx)
  case first =>
    have hmk := fun w => mkI w n (by omega)
    have h4 : n ≤ 4000 := by omega
    have oP : Own ((w1.alloc (.cells (madeCells #[.int .i64 0] n) 3)).alloc (.cells (madeCells #[.int .i64 0] n) 3)).drew (w.heap.size + 1) (.slice (some ⟨w1.heap.size, 0, none⟩) n n) (List.replicate n 0) := ((own_made (w := w1) rfl hz1 h4).alloc _).all ⟨rfl, rfl, rfl, Nat.le_refl _, fun _ _ => rfl⟩
    have oQ : Own ((w1.alloc (.cells (madeCells #[.int .i64 0] n) 3)).alloc (.cells (madeCells #[.int .i64 0] n) 3)).drew (w.heap.size + 1) (.slice (some ⟨w1.heap.size + 1, 0, none⟩) n n) (List.replicate n 0) := (own_made (w := w1.alloc (.cells (madeCells #[.int .i64 0] n) 3)) (by simp) (by omega) h4).all ⟨rfl, rfl, rfl, Nat.le_refl _, fun _ _ => rfl⟩
    have hbW : Below w1.heap.size w1 ((w1.alloc (.cells (madeCells #[.int .i64 0] n) 3)).alloc (.cells (madeCells #[.int .i64 0] n) 3)).drew := belowD (((Below.refl _ _).alloc (Nat.le_refl _) _).alloc (by simp) _)
    have hng : w1.heap.size ≠ g1 := by omega
    have hng2 : w1.heap.size + 1 ≠ g1 := by omega
    have hz2 : w.heap.size + 1 ≤ w1.heap.size + 1 := by omega
    clear x1 own2
    go_region
    all_goals
      go_wp2
      go_meet
      case rel => first | exact ⟨w1.heap.size, w1.heap.size + 1, rfl, rfl, by omega, hng, hng2, hz1, hz2, oP, oQ, hbW⟩ | exact ⟨w1.heap.size + 1, w1.heap.size, rfl, rfl, by omega, hng2, hng, hz2, hz1, oQ, oP, hbW⟩
  case rest =>
    obtain ⟨p, q, rfl, rfl, hpq, hpg, hqg, hp1, hq1, oS, oC, hbx⟩ := hcut
    have x2 := x1.all hbx
    have oL := own2.all hbx
    clear x1 own2 hbx
    go_wp2
    go_loopw [8] (fun s8 wr => ∃ (i : Nat) (S C : List Int), i ≤ xs.length ∧ s8 = .int .i64 i ∧ Hid (SzOk m xs i S C) ∧ Own wr (w.heap.size + 1) (.slice (some ⟨p, 0, none⟩) n n) S ∧ Own wr (w.heap.size + 1) (.slice (some ⟨q, 0, none⟩) n n) C ∧ Own wr (w.heap.size + 1) (.slice (some ⟨g1, 0, none⟩) xs.length c1) (labsOf m xs) ∧ Cx w m k b off c B xs wr) (fun s8 _ => xs.length - (intOf s8).toNat)
    case atStart => exact ⟨0, _, _, Nat.zero_le _, rfl, HSZ, oS, oC, oL, x2⟩
    case round =>
      clear HSZ oS oC oL x2
      obtain ⟨i, S, C, hi, rfl, HSZ, oS, oC, oL, x1⟩ := hrel
      by_cases hlt : i < xs.length
      · have hr := labAt_rng (m := m) hlt
        obtain ⟨a, ha⟩ := Int.eq_ofNat_of_zero_le hr.1
        have HA := Lib.hid ha
        have han : a < n := by rw [ha, HN.out] at hr; omega
        have el := own_at oL (j := i) (x := (a : Int)) (by rw [HLL.out]; exact hlt) ha
        obtain ⟨v, hv⟩ : ∃ v, S.getD a 0 = v := ⟨_, rfl⟩
        obtain ⟨cv, hc⟩ : ∃ cv, xs.getD i 0 = cv := ⟨_, rfl⟩
        have es := own_at oS (j := a) (by rw [HSZ.out.ls, HN.out]; exact han) hv
        have hvb : 0 ≤ v ∧ v ≤ 64 := by
          rw [← hv, HSZ.out.s a (by rw [HN.out]; exact han)]
          have := cntTo_le m a i xs
          omega
        have ek := x1.knot hlt hc
        have hcf : I64 cv := by rw [← hc, getD_at hlt]; exact hfx _ (List.getElem_mem hlt)
        have HS2 := Lib.hid (HSZ.out.step hlt ha hv hc)
        have HSl := Lib.hid (show C.length = n by rw [HSZ.out.lc, HN.out])
        have e2 := x1.c2
        have hzz := x1.sz
        obtain ⟨hfz, oS', hgr⟩ := own_put oS a (v + 1) ⟨by omega, by omega⟩
        have x2 := x1.mark hgr (fun q hq => by cases hq; exact hp1)
        have oC2 := oC.far (a := ⟨p, a, none⟩) (fun e => hpq (by simpa [Value.ownBlock] using e.symm)) (.int .i64 (v + 1))
        have oL2 := oL.far (a := ⟨p, a, none⟩) (fun e => hpg (by simpa [Value.ownBlock] using e.symm)) (.int .i64 (v + 1))
        have hwv : IntKind.i64.wrap (v + 1) = v + 1 := IntWalk.i64_in _ (by omega)
        have HCC := Lib.hid hc
        clear ha hv hc HSZ hr oS oC oL hgr hi
        go_upto_region 8 with fail
        clear hfz es el e2 ek x1
        generalize wr.setCell ⟨p, a, none⟩ (.int .i64 (v + 1)) = W2 at *
        have ek := x2.knot hlt HCC.out
        have e2 := x2.c2
        have ec := own_at oC2 (j := a) (by rw [HSl.out]; exact han) rfl
        obtain ⟨hfz, oC', hgr⟩ := own_put oC2 a cv hcf
        have x3 := x2.mark hgr (fun q' hq => by cases hq; exact hq1)
        have oS3 := oS'.far (a := ⟨q, a, none⟩) (fun e => hpq (by simpa [Value.ownBlock] using e)) (.int .i64 cv)
        have oL3 := oL2.far (a := ⟨q, a, none⟩) (fun e => hqg (by simpa [Value.ownBlock] using e.symm)) (.int .i64 cv)
        clear x2 oS' oL2 oC2 hgr
        go_wp2
        go_roundw
        case rel => exact ⟨i + 1, _, _, hlt, by go_num, HS2, oS3, oC', oL3, x3⟩
        case measure => simp [intOf]; omega
      · have HE := Lib.hid (HSZ.out.end_ (by omega))
        have HE1 := Lib.hid HSZ.out.ls
        have HE2 := Lib.hid HSZ.out.lc
        go_wp2
        go_ret2
        exact ⟨some ⟨p, 0, none⟩, some ⟨q, 0, none⟩, n, n, S, C, by rw [HN.out]; rfl, by rw [HN.out]; exact oS.mono (Nat.le_succ _), by rw [HN.out]; exact oC.mono (Nat.le_succ _), x1.bel, ⟨HE1.out, HE2.out, HE.out⟩⟩
set_option maxRecDepth 100000 in
set_option maxHeartbeats 4000000 in
theorem l12Color_any (m k b off c B : Nat) (xs : List Int) (color : Int) (w : World) (h : Rd w B (some ⟨b, off, none⟩) xs.length c xs) (hB : B ≤ w.heap.size) (hm : 1 ≤ m) (hm8 : m ≤ 8) (hk1 : 1 ≤ k) (hk8 : k ≤ 8) (hl : Hid (xs.length = m * k)) (hN : 1 ≤ xs.length) :
    Calls Try.prog 23 #[chartV m k (.slice (some ⟨b, off, none⟩) xs.length c), .int .i64 color] w (OwnCopy w (sizesL m xs color)) := by
  have h64 : xs.length ≤ 64 := by have := Nat.mul_le_mul hm8 hk8; rw [hl.out]; omega
  have hcn : cntOf m xs ≤ 64 := Nat.le_trans (cnt_le m xs) h64
  have x0 := Cx.start (m := m) (k := k) h hB
  have hc1 : 1 ≤ cntOf m xs := by have := (labAt_rng (m := m) (xs := xs) (x := 0) hN); omega
  clear h
  go_enter Try.func23, Try.ntmps23
  go_upto_region 1 with fail
  generalize w.alloc (.cells #[.int .i64 m, .int .i64 k, .slice (some ⟨b, off, none⟩) xs.length c] 26) = w0 at *
  have e0 := x0.c0
  have e1 := x0.c1
  have e2 := x0.c2
  have hz0 := x0.sz
  go_wp2_with fail
  refine (l12Sizes_any m k b off c B xs _ x0.rd (by omega) hm hm8 hk1 hk8 hl).mono ?_
  rintro e w1 ⟨A1, A2, c1, c2, S, K, rfl, oS, oK, hb1, HSK⟩
  have x1 := x0.all hb1
  have oS1 := oS.mono hz0
  have oK1 := oK.mono hz0
  obtain ⟨p, rfl, hp1, _⟩ := oS1.some_ (by rw [HSK.out.1]; omega)
  obtain ⟨q, rfl, hq1, _⟩ := oK1.some_ (by rw [HSK.out.2.1]; omega)
  clear oS oK hb1 x0 e0 e1 e2 hz0
  obtain ⟨n, HN⟩ : ∃ n, Hid (cntOf m xs = n) := ⟨_, rfl⟩
  rw [show cntOf m xs = n from HN.out] at oS1 oK1 HSK hcn ⊢
  have oS2 := oS1.alloc (.cells #[] 3)
  have oK2 := oK1.alloc (.cells #[] 3)
  have x2 := x1.alloc (.cells #[] 3)
  have hz1 := x1.sz
  obtain ⟨P, hP⟩ : ∃ P, w1.heap.size = P := ⟨_, rfl⟩
  have hpP : p < P := by rw [← hP]; exact (oS1.bd _ rfl).2
  have hqP : q < P := by rw [← hP]; exact (oK1.bd _ rfl).2
  have oO : Own (w1.alloc (.cells #[] 3)) P (.slice (some ⟨P, 0, none⟩) 0 0) [] := by rw [← hP]; exact Own.empty (Nat.le_refl _)
  have hz2 : P ≤ (w1.alloc (.cells #[] 3)).heap.size := by simp; omega
  have hPw : w.heap.size + 1 ≤ P := by omega
  clear oS1 oK1 x1
  go_upto_region 3 with fail
  generalize w1.alloc (.cells #[] 3) = W1 at *
  clear hP hz1
  go_wp2
  go_loopw [7, 8] (fun s7 s8 wr => ∃ (a : Nat) (A : Option Addr) (c' : Nat) (L : List Int), a ≤ n ∧ s8 = .int .i64 a ∧ s7 = .slice A L.length c' ∧ Hid (L = sizesTo m xs color a) ∧ Own wr P (.slice A L.length c') L ∧ P ≤ wr.heap.size ∧ Own wr (w.heap.size + 1) (.slice (some ⟨p, 0, none⟩) n c1) S ∧ Own wr (w.heap.size + 1) (.slice (some ⟨q, 0, none⟩) n c2) K ∧ Hid (Below w.heap.size w wr)) (fun _ s8 _ => n - (intOf s8).toNat)
  case atStart => exact ⟨0, _, 0, [], Nat.zero_le _, rfl, rfl, Lib.hid (sizesTo_zero m xs color).symm, oO, hz2, oS2, oK2, x2.bel⟩
  case round =>
    clear oO hz2 oS2 oK2 x2
    obtain ⟨a, A, c', L, ha, rfl, rfl, HL, oO, hPz, oS, oK, HB⟩ := hrel
    have hLl := Lib.hid (show L.length ≤ 1073741824 by have := sizesTo_len m xs color a; rw [HL.out]; omega)
    by_cases hlt : a < n
    · obtain ⟨v, hv⟩ : ∃ v, S.getD a 0 = v := ⟨_, rfl⟩
      obtain ⟨kc, hk⟩ : ∃ kc, K.getD a 0 = kc := ⟨_, rfl⟩
      have es := own_at oS (j := a) (by rw [HSK.out.1]; exact hlt) hv
      have ek := own_at oK (j := a) (by rw [HSK.out.2.1]; exact hlt) hk
      obtain ⟨g1, g2⟩ := HSK.out.2.2 a hlt
      have hvi : I64 v := by rw [← hv, g1]; have := szA_le m a xs; exact ⟨by omega, by omega⟩
      have hvz := g1.symm.trans hv
      have hkz := g2.symm.trans hk
      have HV := Lib.hid hvz
      have HK := Lib.hid hkz
      clear g1 g2 hv hk hvz hkz
      by_cases hcc : kc = color
      · have hcb : (kc == color) = true := by simp [hcc]
        have HL2 := Lib.hid (show L ++ [v] = sizesTo m xs color (a + 1) by rw [sizesTo_yes (by rw [HK.out, hcc]), HL.out, HV.out])
        subst hcc
        have hbd := oO.bd
        have hlen := hLl.out
        go_wp2_with (at_builtin; refine wpList_append_one_at wr rfl (.tmp 27) (.tmp 32) 24 rfl Try.underlying24 info_int P L.length _ L v rfl rfl rfl oO hlen hvi hPz ?_)
        intro A9 c9 w9 ho9 hg9 _
        have oS9 := oS.mark hg9 (nd_lt hbd hpP)
        have oK9 := oK.mark hg9 (nd_lt hbd hqP)
        have hP9 := Nat.le_trans hPz hg9.size
        have HB9 := Lib.hid (HB.out.grown hg9 (by omega) (fun q hq => by have := (hbd q hq).1; omega))
        clear hg9 hbd oO oS oK HB es ek
        go_wp2
        go_roundw
        case rel => exact ⟨a + 1, A9, c9, _, hlt, by go_num, by rw [List.length_append]; rfl, HL2, by rw [List.length_append]; exact ho9, hP9, oS9, oK9, HB9⟩
        case measure => simp [intOf]; omega
      · have hcb : (kc == color) = false := by simp [hcc]
        have HL2 := Lib.hid (show L = sizesTo m xs color (a + 1) by rw [sizesTo_no (by rw [HK.out]; exact hcc)]; exact HL.out)
        clear HL
        go_wp2
        go_roundw
        case rel => exact ⟨a + 1, A, c', L, hlt, by go_num, rfl, HL2, oO, hPz, oS, oK, HB⟩
        case measure => simp [intOf]; omega
    · have HF := Lib.hid (show L = sizesL m xs color by rw [HL.out, sizesL, HN.out, show a = n by omega])
      go_wp2
      go_ret
      rw [← HF.out]
      exact ⟨A, c', rfl, oO.mono (by omega), HB.out⟩
theorem sizesOk_no1 {W H : Int} {xs : List Int} {color : Int} (h : goodB W H xs = false) : sizesOk W H xs color = false := by simp [sizesOk, h]
theorem sizesOk_no2 {W H : Int} {xs : List Int} {color : Int} (h : isColorB color = false) : sizesOk W H xs color = false := by simp [sizesOk, h]
theorem sizesOk_yes {W H : Int} {xs : List Int} {color : Int} (h : goodB W H xs = true) (h' : isColorB color = true) : sizesOk W H xs color = true := by simp [sizesOk, h, h']
end Go.Proofs.Ytpnmnkdnlajfiaa
namespace Go.Proofs.Ytpnmnkdnlajfiaa
open Go.RowKit

/-- What an area's places are: as many as its size, with its color. -/
theorem grp_area {m a : Nat} {xs : List Int} {ass : List (List Nat)} {l : List Nat} (h : IsGrp m xs ass) (hl : ass[a]? = some l) : l.length = szA m xs a ∧ (∀ x ∈ l, x < xs.length ∧ labAt m xs x = (a : Int)) ∧ ∃ f, l[0]? = some f ∧ f < xs.length ∧ xs.getD f 0 = colA m xs a := by
  obtain ⟨h1, h2, f, h3⟩ := h.2.1 a l hl
  have hf := (h2 f).1 (List.mem_of_getElem? h3)
  exact ⟨len_of_area h1 h2, fun x hx => (h2 x).1 hx, f, h3, hf.1, (colA_eq hf.1 hf.2).symm⟩
set_option maxRecDepth 100000 in
set_option maxHeartbeats 4000000 in
theorem implAreaSizes_any (W H : Int) (A : Option Addr) (n c B : Nat) (xs : List Int) (color : Int) (w : World) (h : Rd w B A n c xs) (hB : B ≤ w.heap.size) :
    Calls Try.prog 27 #[chartV W H (.slice A n c), .int .i64 color] w (OutInts w (sizesX W H xs color) (sizesOk W H xs color)) := by
  cases hg : goodB W H xs with
  | false =>
    have H2 := Lib.hid (sizesOk_no1 (color := color) hg)
    have HX := Lib.hid (sizesX_no H2.out)
    have hb0 := Lib.hid (show Below w.heap.size w (w.alloc (.cells #[.int .i64 W, .int .i64 H, .slice A n c] 26)) from (Below.refl _ _).alloc (Nat.le_refl _) _)
    have h' := h.alloc hB (.cells #[.int .i64 W, .int .i64 H, .slice A n c] 26)
    go_enter Try.func27, Try.ntmps27
    go_wp2_with fail
    refine (implIsChart_any W H A n c B xs _ h' (by simp; omega)).mono ?_
    rintro e w1 ⟨rfl, hb⟩
    rw [hg]
    go_wp2
    go_ret2
    rw [HX.out, H2.out]
    exact ⟨none, 0, rfl, Own.nil _ _, hb0.out.trans (hb.mono (by simp))⟩
  | true =>
    obtain ⟨m, k, b, off, rfl, rfl, rfl, rfl, hm, hm8, hk1, hk8, hl, h64, hN, _⟩ := good_open hg h
    have x0 := Cx.start (m := m) (k := k) h hB
    clear h
    cases hcl : isColorB color with
    | false =>
      have H2 := Lib.hid (sizesOk_no2 (W := m) (H := k) (xs := xs) hcl)
      have HX := Lib.hid (sizesX_no H2.out)
      go_enter Try.func27, Try.ntmps27
      go_upto_region 1 with fail
      generalize w.alloc (.cells #[.int .i64 m, .int .i64 k, .slice (some ⟨b, off, none⟩) xs.length c] 26) = w0 at *
      have e0 := x0.c0
      have e1 := x0.c1
      have e2 := x0.c2
      have hz0 := x0.sz
      go_wp2_with fail
      refine (implIsChart_any m k _ _ c B xs _ x0.rd (by omega)).mono ?_
      rintro e w1 ⟨rfl, hb⟩
      rw [hg]
      have hb4 := (x0.all hb).bel
      clear e0 e1 e2 hz0 x0 hb
      go_wp2_with fail
      refine (isColor_any color w1).mono ?_
      rintro e w2 ⟨rfl, rfl⟩
      rw [hcl]
      go_wp2
      go_ret2
      rw [HX.out, H2.out]
      exact ⟨none, 0, rfl, Own.nil _ _, hb4⟩
    | true =>
      have H2 := Lib.hid (sizesOk_yes hg hcl)
      have HX := Lib.hid (sizesX_yes H2.out)
      go_enter Try.func27, Try.ntmps27
      go_upto_region 1 with fail
      generalize w.alloc (.cells #[.int .i64 m, .int .i64 k, .slice (some ⟨b, off, none⟩) xs.length c] 26) = w0 at *
      have e0 := x0.c0
      have e1 := x0.c1
      have e2 := x0.c2
      have hz0 := x0.sz
      go_wp2_with fail
      refine (implIsChart_any m k _ _ c B xs _ x0.rd (by omega)).mono ?_
      rintro e w1 ⟨rfl, hb⟩
      rw [hg]
      have x1 := x0.all hb
      clear e0 e1 e2 hz0 x0 hb
      go_wp2_with fail
      refine (isColor_any color w1).mono ?_
      rintro e w2 ⟨rfl, rfl⟩
      rw [hcl]
      have e0 := x1.c0
      have e1 := x1.c1
      have e2 := x1.c2
      have hz1 := x1.sz
      go_wp2_with fail
      refine (areasIn_any m k b off c B xs _ x1.rd (by omega) hm hm8 hk1 hk8 hl).mono ?_
      rintro e w2 ⟨A2, c2, ass, rfl, own2, hb2, HG⟩
      have x2 := x1.all hb2
      have hP1 : w.heap.size + 1 ≤ w2.heap.size := x2.sz
      have hal : ass.length ≤ 64 := by rw [HG.out.1]; exact Nat.le_trans (cnt_le m xs) h64
      clear hb2 x1 e0 e1 e2 hz1
      go_wp2
      go_loopw [6, 20] (fun s6 s20 wr => ∃ (a : Nat) (A : Option Addr) (c' : Nat) (L : List Int), a ≤ ass.length ∧ s20 = .int .i64 a ∧ s6 = .slice A L.length c' ∧ Hid (L = sizesTo m xs color a) ∧ Own wr w2.heap.size (.slice A L.length c') L ∧ w2.heap.size ≤ wr.heap.size ∧ Hid (Below w2.heap.size w2 wr) ∧ Cx w m k b off c B xs wr) (fun _ s20 _ => ass.length - (intOf s20).toNat)
      case atStart => exact ⟨0, none, 0, [], Nat.zero_le _, rfl, rfl, Lib.hid (sizesTo_zero m xs color).symm, Own.nil _ _, Nat.le_refl _, Lib.hid (Below.refl _ _), x2⟩
      case round =>
        clear x2
        obtain ⟨a, A, c', L, ha, rfl, rfl, HL, oO, hPz, HB, x1⟩ := hrel
        have hLl := Lib.hid (show L.length ≤ 1073741824 by have := sizesTo_len m xs color a; rw [HL.out]; omega)
        by_cases hlt : a < ass.length
        · have hR := own2.all HB.out
          obtain ⟨g2, l, A1, c1, rfl, hg2, hal', hc, hrow⟩ := hR.row hlt
          obtain ⟨hln, _, f, hf, hfN, hfc⟩ := grp_area HG.out hal'
          have hl0 : 0 < l.length := (List.getElem?_eq_some_iff.1 hf).1
          obtain ⟨g3, rfl, _, _⟩ := hrow.some_ (by rw [upI_len]; omega)
          have e3 := own_at hrow (j := 0) (by rw [upI_len]; exact hl0) (upI_get hf)
          obtain ⟨kc, hk⟩ : ∃ kc, colA m xs a = kc := ⟨_, rfl⟩
          have ek := x1.knot hfN (hfc.trans hk)
          have e2 := x1.c2
          have hl64 : l.length ≤ 64 := by have := szA_le m a xs; omega
          have HLN := Lib.hid hln
          have HK := Lib.hid hk
          have hc1 := hrow.rd.cap
          have hz1 := x1.sz
          clear hR hrow hf hfc hk hln
          go_upto_region 7 with fail
          go_quiet (fail)
          replace x1 := x1.drewN nq
          replace oO := oO.drewN nq
          replace HB := Lib.hid (belowN HB.out nq)
          replace hPz : w2.heap.size ≤ (wr.drewN nq).heap.size := hPz
          clear e3 ek e2 hc
          generalize wr.drewN nq = wq at *
          by_cases hcc : kc = color
          · have hcb : (kc == color) = true := by simp [hcc]
            have HL2 := Lib.hid (show L ++ [(l.length : Int)] = sizesTo m xs color (a + 1) by rw [sizesTo_yes (by rw [HK.out, hcc]), HL.out, HLN.out])
            subst hcc
            have hbd := oO.bd
            have hlen := hLl.out
            go_wp2_with (at_builtin; refine wpList_append_one_at wq rfl (.tmp 33) (.tmp 36) 24 rfl Try.underlying24 info_int w2.heap.size L.length _ L (l.length : Int) rfl rfl rfl oO hlen ⟨by omega, by omega⟩ hPz ?_)
            intro A9 c9 w9 ho9 hg9 _
            have x9 := x1.mark hg9 (fun q hq => by have := (hbd q hq).1; omega)
            have hP9 := Nat.le_trans hPz hg9.size
            have HB9 := Lib.hid (HB.out.grown hg9 hPz (fun q hq => (hbd q hq).1))
            clear hg9 hbd oO x1 HB
            go_wp2
            go_roundw
            case rel => exact ⟨a + 1, A9, c9, _, hlt, by go_num, by rw [List.length_append]; rfl, HL2, by rw [List.length_append]; exact ho9, hP9, HB9, x9⟩
            case measure => simp [intOf]; omega
          · have hcb : (kc == color) = false := by simp [hcc]
            have HL2 := Lib.hid (show L = sizesTo m xs color (a + 1) by rw [sizesTo_no (by rw [HK.out]; exact hcc)]; exact HL.out)
            clear HL
            go_wp2
            go_roundw
            case rel => exact ⟨a + 1, A, c', L, hlt, by go_num, rfl, HL2, oO, hPz, HB, x1⟩
            case measure => simp [intOf]; omega
        · have HF := Lib.hid (show L = sizesL m xs color by rw [HL.out, sizesL, ← HG.out.1, show a = ass.length by omega])
          go_wp2
          go_ret2
          rw [HX.out, H2.out, ← HF.out]
          exact ⟨A, c', rfl, oO.mono (by omega), x1.bel⟩
end Go.Proofs.Ytpnmnkdnlajfiaa
