/- The walk of the program's FewestLots. No condition. -/
import Derived.Test.YtpnmnkdnlajfiaaMgRest
import Derived.Test.YtpnmnkdnlajfiaaShelfR
namespace Go.Proofs.Ytpnmnkdnlajfiaa
open Go.RowKit

def setL2 : List Int → Nat → List Int → List Int
  | xs, _, [] => xs
  | xs, o, v :: vs => setL2 (xs.set o v) (o + 1) vs
theorem setL2_eq : ∀ (vs a b : List Int), b.length = vs.length → setL2 (a ++ b) a.length vs = a ++ vs
  | [], a, b, h => by
    have : b = [] := List.eq_nil_of_length_eq_zero h
    rw [this]; rfl
  | v :: vs, a, b, h => by
    obtain ⟨x, b, rfl⟩ : ∃ x b', b = x :: b' := by
      cases b with
      | nil => simp at h
      | cons x b => exact ⟨x, b, rfl⟩
    have e : (a ++ x :: b).set a.length v = (a ++ [v]) ++ b := by simp
    have hl : a.length + 1 = (a ++ [v]).length := by simp
    rw [setL2, e, hl, setL2_eq vs (a ++ [v]) b (by simpa using h)]
    simp
theorem own_setCells2 {lo g n c : Nat} : ∀ (vs xs : List Int) (o : Nat) (w : World), (∀ v ∈ vs, I64 v) → Own w lo (.slice (some ⟨g, 0, none⟩) n c) xs →
    Own (w.setCells g o (vs.map (Value.int .i64))) lo (.slice (some ⟨g, 0, none⟩) n c) (setL2 xs o vs) ∧ Below lo w (w.setCells g o (vs.map (Value.int .i64)))
  | [], xs, o, w, _, h => ⟨h, Below.refl _ _⟩
  | v :: vs, xs, o, w, hv, h => by
    obtain ⟨_, h1, h2⟩ := own_put h o v (hv v (by simp))
    obtain ⟨h3, h4⟩ := own_setCells2 vs (xs.set o v) (o + 1) _ (fun u hu => hv u (by simp [hu])) h1
    have hb := (h.bd g rfl).1
    exact ⟨h3, ((Below.refl lo w).setCell (p := ⟨g, o, none⟩) hb _).trans h4⟩
theorem revInts_any (g n c lo : Nat) (zs : List Int) (w : World) (h : Own w lo (.slice (some ⟨g, 0, none⟩) n c) zs) :
    Calls Try.prog 26 #[.slice (some ⟨g, 0, none⟩) n c] w fun e w' => e = .returned (.tuple #[]) ∧ Own w' lo (.slice (some ⟨g, 0, none⟩) n c) zs.reverse ∧ Below lo w w' := by
  have hn : zs.length = n := h.rd.len
  have hlt := h.rd.len_lt
  refine (Try.slices_Reverse_int_cells g 0 n c zs w (Nat.le_of_eq hn.symm) hlt (fun j hj => by rw [Nat.zero_add]; exact own_at h hj rfl) (fun j _ => by rw [Nat.zero_add]; exact (own_put h j 0 ⟨by omega, by omega⟩).1)).mono ?_
  rintro e w' ⟨rfl, q, rfl⟩
  rw [List.take_of_length_le (Nat.le_of_eq hn)]
  obtain ⟨h1, h2⟩ := own_setCells2 zs.reverse zs 0 (w.drewN q) (fun v hv => h.2 v (List.mem_reverse.1 hv)) (h.drewN q)
  have e : setL2 zs 0 zs.reverse = zs.reverse := by
    have := setL2_eq zs.reverse [] zs (by simp)
    simpa using this
  rw [e] at h1
  exact ⟨rfl, h1, (show Below lo w (w.drewN q) from belowN (Below.refl _ _) q).trans h2⟩
theorem Own.headI {w : World} {lo g n c q : Nat} {xs : List Int} (h : Own w lo (.slice (some ⟨g, 0, none⟩) n c) xs) (hq : q ≤ n) : Own w lo (.slice (some ⟨g, 0, none⟩) q c) (xs.take q) := by
  have hl : xs.length = n := h.rd.len
  have hql : (xs.take q).length = q := by rw [List.length_take]; omega
  refine ⟨⟨by rw [List.length_map, hql]; omega, ?_⟩, fun x hx => h.2 x (List.mem_of_mem_take hx)⟩
  rcases h.1.2 with ⟨e, _⟩ | ⟨g', cap, cur, e, hb, hg, hle, hm, hs, ht⟩
  · cases e
  · cases e
    refine .inr ⟨g, c, cur, by rw [hql], hb, hg, by rw [hql]; omega, hm, hs, ?_⟩
    rw [hql, List.map_take, ← ht, List.take_take]
    congr 1
    omega
set_option maxRecDepth 100000 in
set_option maxHeartbeats 4000000 in
theorem implFewestLots_any (W H : Int) (A : Option Addr) (n c B : Nat) (xs : List Int) (color : Int) (A2 : Option Addr) (n2 c2 B2 : Nat) (lots : List Int) (w : World) (h : Rd w B A n c xs) (hB : B ≤ w.heap.size) (h2 : Rd w B2 A2 n2 c2 lots) (hB2 : B2 ≤ w.heap.size) :
    Calls Try.prog 9 #[chartV W H (.slice A n c), .int .i64 color, .slice A2 n2 c2] w (Out w (.tuple #[.int .i64 (fewV (fewO W H xs color lots)), .bool (fewO W H xs color lots).isSome])) := by
  have hb0 : Below w.heap.size w (w.alloc (.cells #[.int .i64 W, .int .i64 H, .slice A n c] 26)) := (Below.refl _ _).alloc (Nat.le_refl _) _
  have h' := h.alloc hB (.cells #[.int .i64 W, .int .i64 H, .slice A n c] 26)
  have h2' := h2.alloc hB2 (.cells #[.int .i64 W, .int .i64 H, .slice A n c] 26)
  have x0 := Blk.new w #[.int .i64 W, .int .i64 H, .slice A n c] 26
  have e0 := x0.cell 0
  have e1 := x0.cell 1
  have e2 := x0.cell 2
  obtain ⟨so, hso⟩ : ∃ so, srchOk W H xs color lots = so := ⟨_, rfl⟩
  have HSO := Lib.hid hso
  obtain ⟨hs64, hsr⟩ := sizesX_rng (W := W) (H := H) (xs := xs) (color := color)
  go_enter Try.func9, Try.ntmps9
  go_upto_region 1 with fail
  generalize w.alloc (.cells #[.int .i64 W, .int .i64 H, .slice A n c] 26) = w0 at *
  have hz0 := hb0.size
  go_wp2_with fail
  refine (sizesToAssign_any W H A n c B xs color A2 n2 c2 B2 lots _ h' (by omega) h2' (by omega)).mono ?_
  rintro e w1 ⟨A1, c1, S, rfl, oS, hb1, HS⟩
  rw [hso] at HS ⊢
  have HB := Lib.hid (hb0.trans (hb1.mono hz0))
  have hz1 := HB.out.size
  clear hb0 hb1 h' h2' x0 e0 e1 e2 hso
  cases so with
  | false =>
    have HF := Lib.hid (fewO_no HSO.out)
    go_wp2
    go_ret2
    rw [HF.out]
    exact ⟨rfl, HB.out⟩
  | true =>
    have hfo := fewO_yes HSO.out
    have hlo : lotsB lots = true := by
      have := HSO.out
      simp only [srchOk, askOk, Bool.and_eq_true] at this
      exact this.1.2
    have hSe := HS.out rfl
    rw [← hSe] at hs64 hsr
    have h21 := h2.all HB.out hB2
    obtain ⟨hl1, hl6, hlr⟩ := lotsB_yes hlo
    obtain ⟨bl, ol, rfl, rfl⟩ := lots_open hlo h21
    have hcl : lots.length ≤ 1048576 := by omega
    obtain ⟨D, hD⟩ : ∃ D, (sortI lots).reverse = D := ⟨_, rfl⟩
    have hDl : D.length = lots.length := by rw [← hD, List.length_reverse, sortI_len]
    have hDm : ∀ x ∈ D, 0 ≤ x ∧ x ≤ 100 := fun x hx => by
      rw [← hD, List.mem_reverse, sortI_mem] at hx
      have := hlr x hx
      omega
    have hDp : lots.Perm D := by
      rw [← hD]
      exact ((List.reverse_perm _).trans (List.mergeSort_perm lots _)).symm
    have hDd : D.Pairwise (· ≥ ·) := by
      rw [← hD, List.pairwise_reverse]
      exact (sortI_asc lots).imp fun h => h
    have HFA := Lib.hid (show ∀ q, (chn12 S (D.take q)).isSome = fewAt W H xs color lots q from fun q => by
      rw [chn_eq, fewAt, Bool.eq_iff_iff, fst_iff, ← hSe]
      exact (few_iff hDd hDp).symm)
    have HX := Lib.hid hfo
    have HDM := Lib.hid hDm
    have HDL := Lib.hid hDl
    have HDE := Lib.hid hD
    obtain ⟨f, hf⟩ : ∃ f, fewAt W H xs color lots = f := ⟨_, rfl⟩
    rw [hf] at HX HFA
    clear HS hfo hSe hlo hDl hDm hDp hDd hD hf
    go_wp2_with fail
    refine (cloneInts_any bl ol _ c2 B2 lots w1 h21 (by omega) hcl).mono ?_
    rintro e w2 ⟨A4, c4, rfl, oC, hb2⟩
    obtain ⟨G, rfl, hGw, _⟩ := oC.some_ (by omega)
    have hz2 := hb2.size
    go_wp2_with fail
    refine (sortInts_any _ _ c4 w1.heap.size lots w2 oC (by omega) hz2).mono ?_
    rintro e w3 ⟨rfl, oC3, hb3⟩
    go_wp2_with fail
    refine (revInts_any G lots.length c4 w1.heap.size (sortI lots) w3 oC3).mono ?_
    rintro e w4 ⟨rfl, oC4, hb4⟩
    rw [HDE.out] at oC4
    have hb14 : Below w1.heap.size w1 w4 := (hb2.trans hb3).trans hb4
    have HB4 := Lib.hid (HB.out.trans (hb14.mono hz1))
    have R4 : Rd w4 w1.heap.size A1 S.length c1 S := oS.rd.below hb14 (Nat.le_refl _)
    have hz4 : w1.heap.size ≤ w4.heap.size := hb14.size
    have hw5 : IntKind.i64.wrap ((lots.length : Int) + 1) = ((lots.length + 1 : Nat) : Int) := by rw [IntWalk.i64_in _ (by omega)]; omega
    obtain ⟨P, hP⟩ : ∃ P, w1.heap.size = P := ⟨_, rfl⟩
    rw [hP] at oC4 R4 hz4
    have hPw : w.heap.size ≤ P := by omega
    clear hb2 hb3 hb4 hb14 oC oC3 oS h21 HB hGw
    go_wp2
    go_loopw [32] (fun s32 wr => ∃ q : Nat, q ≤ lots.length + 1 ∧ s32 = .int .i64 q ∧ Hid (∀ q', q' < q → f q' = false) ∧ Own wr P (.slice (some ⟨G, 0, none⟩) lots.length c4) D ∧ Rd wr P A1 S.length c1 S ∧ P ≤ wr.heap.size ∧ Hid (Below w.heap.size w wr)) (fun s32 _ => lots.length + 1 - (intOf s32).toNat)
    case atStart => exact ⟨0, Nat.zero_le _, rfl, Lib.hid (fun q' h => by omega), oC4, R4, hz4, HB4⟩
    case round =>
      clear oC4 R4 hz4 HB4
      obtain ⟨q, hq, rfl, HNO, oD, R, hPz, HBr⟩ := hrel
      by_cases hlt : q < lots.length + 1
      · have hql : q ≤ lots.length := by omega
        have oT := oD.headI hql
        have hTl := Lib.hid (show (D.take q).length = q by rw [List.length_take, HDL.out]; omega)
        have hcc := oD.rd.cap
        have hmm := oD.rd.max
        unfold maxLen at hmm
        have oT' : Own wr P (.slice (some ⟨G, 0, none⟩) (D.take q).length c4) (D.take q) := by rw [hTl.out]; exact oT
        have hcall := firstChain_any S hs64 hsr (D.take q) (by rw [hTl.out]; omega) (fun x hx => HDM.out x (List.mem_of_mem_take hx)) A1 c1 P G c4 P wr R oT' (Nat.le_refl _) hPz
        rw [hTl.out] at hcall
        clear oT oT'
        go_wp2_with fail
        refine hcall.mono ?_
        rintro e w6 ⟨p, rfl, _, hb6⟩
        rw [HFA.out q]
        have oD6 := oD.all hb6
        have R6 := R.all hb6 hPz
        have hP6 := Nat.le_trans hPz hb6.size
        have HB6 := Lib.hid (HBr.out.trans (hb6.mono (by omega)))
        clear hb6 hcall oD R HBr hPz
        cases hr : f q with
        | true =>
          have HF := Lib.hid (HX.out.trans (find_first HNO.out hlt hr))
          clear hr
          go_wp2
          go_ret2
          rw [HF.out]
          exact ⟨rfl, HB6.out⟩
        | false =>
          have HN2 := Lib.hid (show ∀ q', q' < q + 1 → f q' = false from fun q' h => by
            by_cases e : q' = q
            · subst e; exact hr
            · exact HNO.out q' (by omega))
          clear hr
          go_wp2
          go_roundw
          case rel => exact ⟨q + 1, by omega, by go_num, HN2, oD6, R6, hP6, HB6⟩
          case measure => simp [intOf]; omega
      · have HF := Lib.hid (HX.out.trans (find_none (fun q' h => HNO.out q' (by omega))))
        go_wp2
        go_ret2
        rw [HF.out]
        exact ⟨rfl, HBr.out⟩
end Go.Proofs.Ytpnmnkdnlajfiaa
