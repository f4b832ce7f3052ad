/- CarefulWeavers: the walk of the model. No condition. -/
import Derived.Test.YtnpojmaipndpmaaCareful
import Derived.Test.YtnpojmaipndpmaaPayS
namespace Go.Proofs.Ytnpojmaipndpmaa
open Go.RowKit

/-- What the orders of the region keep. -/
structure Py (w w0 : World) (A : Option Addr) (n c : Nat) (ys : List Int) (P bw ow : Nat) (x : Int) (wx : World) : Prop where
  out : RdF intF wx P A n c ys
  bel : Below w.heap.size w wx
  nb : Below P w0 wx
  sz : P ≤ wx.heap.size
  lo : w.heap.size ≤ P
  cw : wx.cell? ⟨bw, ow, none⟩ = some (.int .i64 x)
  b0 : bw < P
section
variable {w w0 wx wy : World} {P n c bw ow : Nat} {A : Option Addr} {ys : List Int} {x : Int}
theorem Py.drew (h : Py w w0 A n c ys P bw ow x wx) : Py w w0 A n c ys P bw ow x wx.drew := ⟨h.out.drew, belowD h.bel, belowD h.nb, h.sz, h.lo, h.cw, h.b0⟩
theorem Py.alloc (h : Py w w0 A n c ys P bw ow x wx) (o : Obj) : Py w w0 A n c ys P bw ow x (wx.alloc o) := ⟨h.out.alloc h.sz o, h.bel.alloc h.bel.size o, h.nb.alloc h.sz o, by have := h.sz; simp; omega, h.lo, (World.cell?_alloc_lt wx o ⟨bw, ow, none⟩ (Nat.lt_of_lt_of_le h.b0 h.sz)).trans h.cw, h.b0⟩
theorem Py.grown (h : Py w w0 A n c ys P bw ow x wx) {row : Option Nat} (hg : wx.grownBy wy row) (hr : ∀ k, row = some k → P ≤ k) : Py w w0 A n c ys P bw ow x wy :=
  ⟨h.out.mark hg hr h.sz, h.bel.grown hg h.bel.size (fun k hk => Nat.le_trans h.lo (hr k hk)), h.nb.grown hg h.sz hr, Nat.le_trans h.sz hg.size, h.lo, hg.cell (a := ⟨bw, ow, none⟩) h.cw (fun e => by have h1 := hr _ e.symm; have h2 := h.b0; exact absurd h1 (Nat.not_le.2 h2)), h.b0⟩
end
set_option maxRecDepth 100000 in
set_option maxHeartbeats 4000000 in
theorem l14Errors_any (A : Option Addr) (n c B : Nat) (xs : List WorkSheetR) (v p0 q0 : Int) (w : World) (h : RdF workSheetF w B A n c xs) (hB : B ≤ w.heap.size) (hn : n ≤ 1000) (hs : AllS xs) (hp : errW xs v = p0) (hq : errK xs v = q0) :
    Calls Try.prog 26 #[.slice A n c, .int .i64 v] w fun e w' => e = .returned (.tuple #[.int .i64 p0, .int .i64 q0]) ∧ w = w' := by
  obtain rfl := h.len
  have HS := Lib.hid hs
  have H1 := Lib.hid hp
  have H2 := Lib.hid hq
  clear hp hq
  go_enter Try.func26, Try.ntmps26
  go_wp2
  go_loopw [8, 6, 7] (fun i s4 s5 wr => ∃ (k : Nat) (p q : Int), k ≤ xs.length ∧ i = .int .i64 k ∧ s4 = .int .i64 p ∧ s5 = .int .i64 q ∧ (0 ≤ p ∧ p ≤ 12000 * (k : Int)) ∧ (0 ≤ q ∧ q ≤ 12000 * (k : Int)) ∧ Hid (p + wrongSum ((xs.drop k).filter (ownP v)) = wrongSum (ofW xs v)) ∧ Hid (q + knotSum ((xs.drop k).filter (ownP v)) = knotSum (ofW xs v)) ∧ wr = w) (fun i _ _ _ => xs.length - (intOf i).toNat)
  case atStart => exact ⟨0, 0, 0, Nat.zero_le _, rfl, rfl, rfl, by omega, by omega, Lib.hid (by simp [ofW]), Lib.hid (by simp [ofW]), rfl⟩
  case round =>
    obtain ⟨k, p, q, hk, rfl, rfl, rfl, ⟨hp0, hp1⟩, ⟨hq0, hq1⟩, HP, HQ, hw⟩ := hrel
    subst hw
    have hki : (0 : Int) ≤ (k : Int) := by omega
    by_cases hlt : k < xs.length
    · obtain ⟨b, off, a, rfl, hbB, ok, HX, hc0, hc1, hc2, hc3, hc4⟩ := WorkSheetR_at (F := workSheetF) rfl (fun _ => rfl) (fun _ => rfl) h hlt
      have HD := Lib.hid (filt_drop (ownP v) HX.out)
      have hkn : (k : Int) < (xs.length : Int) := by omega
      obtain ⟨_, _, ⟨k0, k1⟩, ⟨x0, x1⟩, _⟩ := sheet_of (allS_at HS.out HX.out)
      by_cases hl : a.f0 = v
      · have HP2 := Lib.hid (show (p + a.f3) + wrongSum ((xs.drop (k + 1)).filter (ownP v)) = wrongSum (ofW xs v) by
          rw [← HP.out, HD.out, if_pos (show ownP v a = true from decide_eq_true hl)]
          simp only [List.singleton_append, wrongSum]; omega)
        have HQ2 := Lib.hid (show (q + a.f2) + knotSum ((xs.drop (k + 1)).filter (ownP v)) = knotSum (ofW xs v) by
          rw [← HQ.out, HD.out, if_pos (show ownP v a = true from decide_eq_true hl)]
          simp only [List.singleton_append, knotSum]; omega)
        have hl' : (a.f0 == v) = true := by simp [hl]
        clear hl
        go_wp2
        go_roundw
        case rel => exact ⟨k + 1, p + a.f3, q + a.f2, by omega, by go_num, by go_num, by go_num, by constructor <;> omega, by constructor <;> omega, HP2, HQ2, by first | rfl | trivial⟩
        case measure => simp [intOf]; omega
      · have HP2 := Lib.hid (show p + wrongSum ((xs.drop (k + 1)).filter (ownP v)) = wrongSum (ofW xs v) by
          rw [← HP.out, HD.out, if_neg (show ¬ ownP v a = true from fun hh => hl (of_decide_eq_true hh)), List.nil_append])
        have HQ2 := Lib.hid (show q + knotSum ((xs.drop (k + 1)).filter (ownP v)) = knotSum (ofW xs v) by
          rw [← HQ.out, HD.out, if_neg (show ¬ ownP v a = true from fun hh => hl (of_decide_eq_true hh)), List.nil_append])
        have hl' : (a.f0 == v) = false := by simp [hl]
        clear hl
        go_wp2
        go_roundw
        case rel => exact ⟨k + 1, p, q, by omega, by go_num, rfl, rfl, by constructor <;> omega, by constructor <;> omega, HP2, HQ2, by first | rfl | trivial⟩
        case measure => simp [intOf]; omega
    · obtain rfl : k = xs.length := by omega
      have HE1 := Lib.hid (show p0 = p by have := HP.out; rw [List.drop_length] at this; rw [← H1.out]; unfold errW; rw [← this]; simp [wrongSum])
      have HE2 := Lib.hid (show mostI 1 q = q0 by have := HQ.out; rw [List.drop_length] at this; rw [← H2.out]; unfold errK; rw [← this]; simp [knotSum])
      go_wp2_with (go_at_call 41; (with_reducible refine (l1Most_any _ _ _).mono ?_); rintro e w' ⟨rfl, rfl⟩)
      go_ret2
      rw [HE1.out, ← HE2.out]
      exact ⟨rfl, rfl⟩
set_option maxRecDepth 100000 in
set_option maxHeartbeats 16000000 in
theorem specCarefulWeavers_any (A : Option Addr) (n c B : Nat) (xs : List WorkSheetR) (w : World) (h : RdF workSheetF w B A n c xs) (hB : B ≤ w.heap.size) :
    Calls Try.prog 7 #[.slice A n c] w (OutInts w (careful14 xs).1 (careful14 xs).2) := by
  obtain rfl := h.len
  have o0 : Own (w.alloc (.cells #[] 3)) w.heap.size (.slice (some ⟨w.heap.size, 0, none⟩) 0 0) [] := Own.empty (Nat.le_refl _)
  have HB0 : Below w.heap.size w (w.alloc (.cells #[] 3)) := (Below.refl _ _).alloc (Nat.le_refl _) _
  have hR := h.alloc hB (.cells #[] 3)
  have hBW : B ≤ (w.alloc (.cells #[] 3)).heap.size := by simp; omega
  by_cases hg : sheetsB xs = true
  rotate_left
  · have hg' := not_false hg
    have HU := Lib.hid (show careful14 xs = ([], false) from if_neg hg)
    go_enter Try.func7, Try.ntmps7
    go_wp2_with fail
    refine (l14Good_eq A _ c B xs _ _ hR hBW hg').mono ?_
    rintro e w1 ⟨rfl, hb⟩
    go_wp2
    go_ret2
    rw [HU.out]
    exact ⟨_, _, rfl, o0.all hb, HB0.trans (hb.mono HB0.size)⟩
  have HU := Lib.hid (show careful14 xs = (sortE (lessF (cmpC xs)) (weavers14 xs), true) from if_pos hg)
  have h12 := (sheetsB_of hg).1
  have HG := Lib.hid hg
  go_enter Try.func7, Try.ntmps7
  go_wp2_with fail
  refine (l14Good_eq A _ c B xs _ _ hR hBW hg).mono ?_
  rintro e w1 ⟨rfl, hb⟩
  replace o0 := o0.all hb
  replace hR := hR.all hb hBW
  replace hBW := Nat.le_trans hBW hb.size
  replace HB0 := HB0.trans (hb.mono HB0.size)
  clear hb
  go_wp2_with fail
  refine (l14Weavers_any A _ c B xs _ hR hBW (by omega)).mono ?_
  rintro e w2 ⟨A2, c2, rfl, own2, hb2⟩
  have hw2 := weavers14_len xs
  replace o0 := o0.all hb2
  have HB2 := HB0.trans (hb2.mono HB0.size)
  have hR2 := hR.all hb2 hBW
  have hB2 : B ≤ w2.heap.size := Nat.le_trans hBW hb2.size
  have hrw := own2.rd
  clear own2 hb2 hR hBW
  obtain ⟨ws, hws⟩ : ∃ ws, weavers14 xs = ws := ⟨_, rfl⟩
  rw [hws] at hrw hw2 HU ⊢
  clear hws
  obtain ⟨q, hq⟩ : ∃ q, ws.length = q := ⟨_, rfl⟩
  rw [hq] at hrw hw2 ⊢
  have HQ := Lib.hid hq
  clear hq
  go_wp2
  go_loopw [6, 4] (fun s6 s4 wr => ∃ (i : Nat) (ys : List Int) (b c4 : Nat), i ≤ q ∧ s6 = .int .i64 i ∧ s4 = .slice (some ⟨b, 0, none⟩) i c4 ∧ Hid (ys = sortE (lessF (cmpC xs)) (ws.take i)) ∧ Own wr w.heap.size (.slice (some ⟨b, 0, none⟩) i c4) ys ∧ Hid (Below w.heap.size w wr) ∧ Rd wr w2.heap.size A2 q c2 ws ∧ RdF workSheetF wr B A xs.length c xs ∧ w2.heap.size ≤ wr.heap.size) (fun s6 _ _ => q - (intOf s6).toNat)
  case atStart => exact ⟨0, [], _, _, Nat.zero_le _, rfl, rfl, Lib.hid rfl, o0, Lib.hid HB2, hrw, hR2, Nat.le_refl _⟩
  case round =>
    clear o0 HB0 HB2 hrw hR2
    obtain ⟨i, ys, b, c4, hi, rfl, rfl, HYS, own, HB, hrw, hR, hz2⟩ := hrel
    have hBr : B ≤ wr.heap.size := Nat.le_trans hB2 hz2
    have hyl : ys.length = i := own.rd.len
    have HYL := Lib.hid hyl
    by_cases hlt : i < q
    rotate_left
    · obtain rfl : i = q := by omega
      have HE := Lib.hid (show ys = sortE (lessF (cmpC xs)) ws by rw [HYS.out, List.take_of_length_le (by have := HQ.out; omega)])
      go_wp2
      go_ret2
      rw [HU.out]
      have hsl : (sortE (lessF (cmpC xs)) ws).length = i := by rw [← HE.out]; exact HYL.out
      exact ⟨_, c4, by show _ = Ending.returned (.tuple #[.slice _ (sortE (lessF (cmpC xs)) ws).length c4, .bool true]); rw [hsl]; rfl, by show Own _ _ (.slice _ (sortE (lessF (cmpC xs)) ws).length c4) _; rw [hsl, ← HE.out]; exact own, HB.out⟩
    obtain ⟨bw, off, x, rfl, hbw2, hcw, hx1, hx2, HXX⟩ := hrw.at hlt
    have hbw : bw < wr.heap.size := by omega
    have HOK : Hid (I64 x) := Lib.hid ⟨hx1, hx2⟩
    have hgx : ws[i]? = some x := by
      have hiw : i < ws.length := by have := HQ.out; omega
      have := HXX.out
      rw [List.getD_eq_getElem?_getD, List.getElem?_eq_getElem hiw] at this
      rw [List.getElem?_eq_getElem hiw]
      exact congrArg some this
    have HN := Lib.hid (show sortE (lessF (cmpC xs)) (ws.take (i + 1)) = insE (lessF (cmpC xs)) ys x by rw [sortE_take hgx, HYS.out])
    have hx := err_bd HG.out x
    obtain ⟨a1, ha1⟩ : ∃ a1, errW xs x = a1 := ⟨_, rfl⟩
    obtain ⟨d1, hd1⟩ : ∃ d1, errK xs x = d1 := ⟨_, rfl⟩
    rw [ha1, hd1] at hx
    have HA1 := Lib.hid ha1
    have HD1 := Lib.hid hd1
    clear hgx ha1 hd1 hyl hx1 hx2
    have hki : (0 : Int) ≤ (i : Int) := by omega
    have hkn : (i : Int) < (q : Int) := by omega
    have HBH0 : Hid (Behind (lessF (cmpC xs)) x ys i) := Lib.hid (by have := behind_end (lessF (cmpC xs)) x ys; rwa [HYL.out] at this)
    have hyle : ys.length ≤ 1000 := by have := HYL.out; omega
    obtain ⟨w5, hw5⟩ : ∃ w5, w5 = wr := ⟨_, rfl⟩
    subst hw5
    go_wp2_with fail
    refine (l14Errors_any A _ c B xs x a1 d1 _ hR hBr (by omega) (sheets_all HG.out) HA1.out HD1.out).mono ?_
    rintro e w' ⟨rfl, rfl⟩
    go_wp2
    go_loopw [9] (fun s9 wx => ∃ k : Nat, k ≤ i ∧ s9 = .int .i64 k ∧ Hid (Behind (lessF (cmpC xs)) x ys k) ∧ wx = w5) (fun s9 _ => (intOf s9).toNat)
    case atStart => exact ⟨i, Nat.le_refl _, rfl, HBH0, rfl⟩
    case round =>
      clear HBH0
      obtain ⟨k, hk, rfl, HBH, hw⟩ := hrel
      subst hw
      by_cases hk0 : k = 0
      · have HPL : Hid (PlaceE (lessF (cmpC xs)) x ys k) := Lib.hid (by subst hk0; exact place_zero HBH.out)
        have hkf : ¬ (0 : Int) < (k : Int) := by omega
        have hk0i : (0 : Int) ≤ (k : Int) := by omega
        clear hk0
        go_wp2_with fail
        clear hkf
        have hkc : k ≤ c4 := Nat.le_trans hk own.rd.cap
        have HX : Py w wr (some ⟨b, 0, none⟩) i c4 ys wr.heap.size bw (off + i) x wr := ⟨own.rd.toF, HB.out, Below.refl _ _, Nat.le_refl _, HB.out.size, hcw, hbw⟩
        generalize hP : wr.heap.size = P at HX
        refine wp_region_noPanic ?_
        refine wp_region_held_drew (S := fun w' => w'.cell? ⟨bw, off + i, none⟩ = some (.int .i64 x)) (by kernel_rfl) hcw (fun hHeld => ?_)
        replace HX := HX.drew
        obtain ⟨wd, hwd⟩ : ∃ v, wr.drew = v := ⟨_, rfl⟩
        rw [hwd] at HX hHeld ⊢
        refine wpAnyH_take (i := 1) (v := ?_) rfl (by kernel_rfl) (by kernel_rfl) (by kernel_rfl) (fun _ _ _ h => h) (Or.inl ⟨by rfl, ?_⟩) (by assumption) ?_
        rotate_left
        · intro w hSw; go_simp; (try with_reducible rfl)
        (try simp only [Act.put, List.getElem_toArray, List.getElem_cons_zero, List.getElem_cons_succ, List.setIfInBounds_toArray, List.set_cons_zero, List.set_cons_succ])
        refine wpAnyH_take (i := 2) (v := ?_) rfl (by kernel_rfl) (by kernel_rfl) (by kernel_rfl) (fun _ _ _ h => h) (Or.inl ⟨by rfl, ?_⟩) (by assumption) ?_
        rotate_left
        · intro w hSw; go_simp; (try with_reducible rfl)
        (try simp only [Act.put, List.getElem_toArray, List.getElem_cons_zero, List.getElem_cons_succ, List.setIfInBounds_toArray, List.set_cons_zero, List.set_cons_succ])
        refine wpAnyH_take (i := 3) (v := .slice (some ⟨b, 0, none⟩) k c4) rfl (by kernel_rfl) (by kernel_rfl) (by kernel_rfl) (fun _ _ _ h => h) (Or.inl ⟨by rfl, ?_⟩) (by assumption) ?_
        · intro w hSw; go_simp; (try simp [go_sem]); (try rfl); (try (intro hx; exfalso; omega)); (try (split <;> simp))
        (try simp only [Act.put, List.getElem_toArray, List.getElem_cons_zero, List.getElem_cons_succ, List.setIfInBounds_toArray, List.set_cons_zero, List.set_cons_succ])
        refine wpAnyH_take (i := 5) (v := ?_) rfl (by kernel_rfl) (by kernel_rfl) (by kernel_rfl) (fun _ _ _ h => h) (Or.inl ⟨by rfl, ?_⟩) (by assumption) ?_
        rotate_left
        · intro w hSw; go_simp; (try with_reducible rfl)
        (try simp only [Act.put, List.getElem_toArray, List.getElem_cons_zero, List.getElem_cons_succ, List.setIfInBounds_toArray, List.set_cons_zero, List.set_cons_succ])
        refine wpAnyH_take (i := 6) (v := ?_) rfl (by kernel_rfl) (by kernel_rfl) (by kernel_rfl) (fun _ _ _ h => h) (Or.inl ⟨by rfl, ?_⟩) (by assumption) ?_
        rotate_left
        · intro w hSw; go_simp; (try with_reducible rfl)
        (try simp only [Act.put, List.getElem_toArray, List.getElem_cons_zero, List.getElem_cons_succ, List.setIfInBounds_toArray, List.set_cons_zero, List.set_cons_succ])
        refine wpAnyH_take (i := 7) (v := ?_) rfl (by kernel_rfl) (by kernel_rfl) (by kernel_rfl) (fun _ _ _ h => h) (Or.inl ⟨by rfl, ?_⟩) (by assumption) ?_
        rotate_left
        · intro w hSw; go_simp; (try with_reducible rfl)
        (try simp only [Act.put, List.getElem_toArray, List.getElem_cons_zero, List.getElem_cons_succ, List.setIfInBounds_toArray, List.set_cons_zero, List.set_cons_succ])
        refine wpAnyH_take (i := 8) (v := ?_) rfl (by kernel_rfl) (by kernel_rfl) (by kernel_rfl) (fun _ _ _ h => h) (Or.inl ⟨by rfl, ?_⟩) (by assumption) ?_
        rotate_left
        · intro w hSw; go_simp; (try with_reducible rfl)
        (try simp only [Act.put, List.getElem_toArray, List.getElem_cons_zero, List.getElem_cons_succ, List.setIfInBounds_toArray, List.set_cons_zero, List.set_cons_succ])
        refine wpAnyH_take (i := 11) (v := ?_) rfl (by kernel_rfl) (by kernel_rfl) (by kernel_rfl) (fun _ _ _ h => h) (Or.inl ⟨by rfl, ?_⟩) (by assumption) ?_
        rotate_left
        · intro w hSw; go_simp; (try with_reducible rfl)
        (try simp only [Act.put, List.getElem_toArray, List.getElem_cons_zero, List.getElem_cons_succ, List.setIfInBounds_toArray, List.set_cons_zero, List.set_cons_succ])
        refine wpAnyH_take (i := 12) (v := ?_) rfl (by kernel_rfl) (by kernel_rfl) (by kernel_rfl) (fun _ _ _ h => h) (Or.inl ⟨by rfl, ?_⟩) (by assumption) ?_
        rotate_left
        · intro w hSw; go_simp; (try with_reducible rfl)
        (try simp only [Act.put, List.getElem_toArray, List.getElem_cons_zero, List.getElem_cons_succ, List.setIfInBounds_toArray, List.set_cons_zero, List.set_cons_succ])
        refine wpAnyH_take (i := 13) (v := .slice (some ⟨b, if c4 = k then 0 else 0 + k * 1, none⟩) (i - k) (c4 - k)) rfl (by kernel_rfl) (by kernel_rfl) (by kernel_rfl) (fun _ _ _ h => h) (Or.inl ⟨by rfl, ?_⟩) (by assumption) ?_
        · intro w hSw; go_simp; (try simp [go_sem]); (try rfl); (try (intro hx; exfalso; omega)); (try (split <;> simp))
        (try simp only [Act.put, List.getElem_toArray, List.getElem_cons_zero, List.getElem_cons_succ, List.setIfInBounds_toArray, List.set_cons_zero, List.set_cons_succ])
        refine wpAnyH_ready (rs := [0, 9]) (by kernel_rfl) (by simp) ?_
        refine AllReadyH.cons rfl (fun K hK => ?_) ?_
        · skip
          go_simp
          have oE : OwnF intF (wd.alloc (.cells #[] 3)) P (.slice (some ⟨wd.heap.size, 0, none⟩) 0 0) [] := OwnF.empty intF HX.sz
          replace HX := HX.alloc (.cells #[] 3)
          obtain ⟨e, hq⟩ : ∃ q, wd.heap.size = q := ⟨_, rfl⟩
          rw [hq] at oE ⊢
          obtain ⟨w1, hw⟩ : ∃ v, wd.alloc (.cells #[] 3) = v := ⟨_, rfl⟩
          rw [hw] at HX oE ⊢
          clear hw hq
          refine hK.out _ _ HX.cw (fun hHeld => ?_)
          clear hK K
          (try simp only [Act.put, List.getElem_toArray, List.getElem_cons_zero, List.setIfInBounds_toArray, List.set_cons_zero, List.set_cons_succ])
          refine wpAnyH_ready (rs := [4, 9]) (by kernel_rfl) (by simp) ?_
          refine AllReadyH.cons rfl (fun K hK => ?_) ?_
          · skip
            refine step_appendF intF rfl w1 (.tmp 57) (.tmp 60) 26 (.int .i64 0) 8 rfl Try.underlying26 info_int rfl (by decide) (by decide) P (.slice (some ⟨e, 0, none⟩) 0 0) ([] : List Int) (ys.take k) b 0 k c4 P (by simp [Act.eval]) (by simp [Act.eval]) oE (HX.out.head hk) (by simp; omega) HX.sz ?_
            intro Aoa coa w2 oa hg
            replace HX := HX.grown hg (fun q hq => (oE.bd q hq).1)
            clear hg oE
            obtain ⟨Xoa, hXoa⟩ : ∃ m, ([] : List Int) ++ (ys.take k) = m := ⟨_, rfl⟩
            have hl : (([] : List Int) : List Int).length + (ys.take k).length = Xoa.length := by rw [← hXoa, List.length_append]
            rw [hXoa] at oa
            rw [hl] at oa ⊢
            have noa : Xoa.length ≤ 1000000 := by rw [← hl]; simp; omega
            have HXoa := Lib.hid hXoa
            clear hl hXoa
            refine hK.out _ _ HX.cw (fun hHeld => ?_)
            clear hK K
            (try simp only [Act.put, List.getElem_toArray, List.getElem_cons_zero, List.getElem_cons_succ, List.setIfInBounds_toArray, List.set_cons_zero, List.set_cons_succ])
            refine wpAnyH_ready (rs := [9]) (by kernel_rfl) (by simp) ?_
            refine AllReadyH.cons rfl (fun K hK => ?_) AllReadyH.nil
            go_simp
            have oL : OwnF intF (w2.alloc (.cells #[.int .i64 x] 3)) P (.slice (some ⟨w2.heap.size, 0, none⟩) 1 1) [x] := OwnF.made intF #[.int .i64 x] [x] HX.sz (by simp [maxLen]) rfl (by intro y hy; cases List.mem_singleton.1 hy; exact HOK.out)
            replace oa := oa.alloc (.cells #[.int .i64 x] 3)
            replace HX := HX.alloc (.cells #[.int .i64 x] 3)
            obtain ⟨l, hq⟩ : ∃ q, w2.heap.size = q := ⟨_, rfl⟩
            rw [hq] at oL ⊢
            obtain ⟨w3, hw⟩ : ∃ v, w2.alloc (.cells #[.int .i64 x] 3) = v := ⟨_, rfl⟩
            rw [hw] at HX oL oa ⊢
            clear hw hq
            refine hK.out _ _ HX.cw (fun hHeld => ?_)
            clear hK K
            (try simp only [Act.put, List.getElem_toArray, List.getElem_cons_zero, List.getElem_cons_succ, List.setIfInBounds_toArray, List.set_cons_zero, List.set_cons_succ])
            refine wpAnyH_ready (rs := [10]) (by kernel_rfl) (by simp) ?_
            refine AllReadyH.cons rfl (fun K hK => ?_) AllReadyH.nil
            refine step_appendF intF rfl w3 (.tmp 61) (.tmp 66) 26 (.int .i64 0) 8 rfl Try.underlying26 info_int rfl (by decide) (by decide) P (.slice Aoa Xoa.length coa) Xoa [x] l 0 1 1 _ (by simp [Act.eval]) (by simp [Act.eval]) oa oL.rd (by simp; omega) HX.sz ?_
            intro Aob cob wy ob hg
            replace HX := HX.grown hg (fun q hq => (oa.bd q hq).1)
            clear hg oa
            obtain ⟨Xob, hXob⟩ : ∃ m, Xoa ++ [x] = m := ⟨_, rfl⟩
            have hl : (Xoa : List Int).length + [x].length = Xob.length := by rw [← hXob, List.length_append]
            rw [hXob] at ob
            rw [hl] at ob ⊢
            have nob : Xob.length ≤ 1000001 := by rw [← hl]; simp; omega
            have HXob := Lib.hid hXob
            clear hl hXob
            refine hK.out _ _ HX.cw (fun hHeld => ?_)
            clear hK K
            (try simp only [Act.put, List.getElem_toArray, List.getElem_cons_zero, List.getElem_cons_succ, List.setIfInBounds_toArray, List.set_cons_zero, List.set_cons_succ])
            clear oL
            refine wpAnyH_ready (rs := [14]) (by kernel_rfl) (by simp) ?_
            refine AllReadyH.cons rfl (fun K hK => ?_) AllReadyH.nil
            refine step_appendF intF rfl wy (.tmp 67) (.tmp 70) 26 (.int .i64 0) 8 rfl Try.underlying26 info_int rfl (by decide) (by decide) P (.slice Aob Xob.length cob) Xob (ys.drop k) b (if c4 = k then 0 else 0 + k * 1) (i - k) (c4 - k) P (by simp [Act.eval]) (by simp [Act.eval]) ob (HX.out.cut hk) (by simp; omega) HX.sz ?_
            intro Aoc coc wz oc hg
            replace HX := HX.grown hg (fun q hq => (ob.bd q hq).1)
            clear hg ob
            obtain ⟨Xoc, hXoc⟩ : ∃ m, Xob ++ (ys.drop k) = m := ⟨_, rfl⟩
            have hl : (Xob : List Int).length + (ys.drop k).length = Xoc.length := by rw [← hXoc, List.length_append]
            rw [hXoc] at oc
            rw [hl] at oc ⊢
            have noc : Xoc.length ≤ 2000001 := by rw [← hl]; simp; omega
            have HXoc := Lib.hid hXoc
            clear hl hXoc
            refine hK.out _ _ HX.cw (fun hHeld => ?_)
            clear hK K
            (try simp only [Act.put, List.getElem_toArray, List.getElem_cons_zero, List.getElem_cons_succ, List.setIfInBounds_toArray, List.set_cons_zero, List.set_cons_succ])
            refine wpAnyH_take (i := 15) (v := ?_) rfl (by kernel_rfl) (by kernel_rfl) (by kernel_rfl) (fun _ _ _ h => h) (Or.inl ⟨by rfl, ?_⟩) (by assumption) ?_
            rotate_left
            · intro w hSw; go_simp; (try with_reducible rfl)
            (try simp only [Act.put, List.getElem_toArray, List.getElem_cons_zero, List.getElem_cons_succ, List.setIfInBounds_toArray, List.set_cons_zero, List.set_cons_succ])
            refine wpAnyH_done (by kernel_rfl) ?_ _
            refine NoPanic.normal ?_
            obtain ⟨g2, rfl, hg2, _⟩ := oc.some_ (by rw [← HXoc.out, ← HXob.out]; simp; omega)
            have he : Xoc = insE (lessF (cmpC xs)) ys x := by rw [← HXoc.out, ← HXob.out, ← HXoa.out, List.nil_append, insE_eq HPL.out, List.append_assoc]; rfl
            subst he
            have HB2 := Lib.hid HX.bel
            have hnb := HX.nb
            have hPz := HX.sz
            replace oc := OwnF.toI (oc.mono HX.lo)
            have hlen := insE_len (lessF (cmpC xs)) ys x
            rw [← HN.out] at oc hlen ⊢
            clear HX hHeld
            subst hP
            go_wp2
            go_roundw
            case rel => exact ⟨i + 1, _, g2, _, by omega, by go_num, by rw [hlen, HYL.out], Lib.hid rfl, by rw [hlen, HYL.out] at oc; exact oc, HB2, hrw.below hnb hz2, hR.below hnb hBr, Nat.le_trans hz2 hPz⟩
            case measure => simp [intOf]; omega
          refine AllReadyH.cons rfl (fun K hK => ?_) AllReadyH.nil
          have oE0 := oE
          go_simp
          have oL : OwnF intF (w1.alloc (.cells #[.int .i64 x] 3)) P (.slice (some ⟨w1.heap.size, 0, none⟩) 1 1) [x] := OwnF.made intF #[.int .i64 x] [x] HX.sz (by simp [maxLen]) rfl (by intro y hy; cases List.mem_singleton.1 hy; exact HOK.out)
          replace oE := oE.alloc (.cells #[.int .i64 x] 3)
          have hne : w1.heap.size ≠ e := by have h1 := (oE0.bd e rfl).2; omega
          replace HX := HX.alloc (.cells #[.int .i64 x] 3)
          obtain ⟨l, hq⟩ : ∃ q, w1.heap.size = q := ⟨_, rfl⟩
          rw [hq] at oL hne ⊢
          obtain ⟨w2, hw⟩ : ∃ v, w1.alloc (.cells #[.int .i64 x] 3) = v := ⟨_, rfl⟩
          rw [hw] at HX oL oE ⊢
          clear hw hq
          clear oE0
          refine hK.out _ _ HX.cw (fun hHeld => ?_)
          clear hK K
          (try simp only [Act.put, List.getElem_toArray, List.getElem_cons_zero, List.getElem_cons_succ, List.setIfInBounds_toArray, List.set_cons_zero, List.set_cons_succ])
          refine wpAnyH_ready (rs := [4]) (by kernel_rfl) (by simp) ?_
          refine AllReadyH.cons rfl (fun K hK => ?_) AllReadyH.nil
          refine step_appendF intF rfl w2 (.tmp 57) (.tmp 60) 26 (.int .i64 0) 8 rfl Try.underlying26 info_int rfl (by decide) (by decide) P (.slice (some ⟨e, 0, none⟩) 0 0) ([] : List Int) (ys.take k) b 0 k c4 P (by simp [Act.eval]) (by simp [Act.eval]) oE (HX.out.head hk) (by simp; omega) HX.sz ?_
          intro Aoa coa w3 oa hg
          replace HX := HX.grown hg (fun q hq => (oE.bd q hq).1)
          replace oL := oL.mark hg (fun q q' hq hq' => by cases hq; cases hq'; exact hne.symm)
          clear hg oE
          obtain ⟨Xoa, hXoa⟩ : ∃ m, ([] : List Int) ++ (ys.take k) = m := ⟨_, rfl⟩
          have hl : (([] : List Int) : List Int).length + (ys.take k).length = Xoa.length := by rw [← hXoa, List.length_append]
          rw [hXoa] at oa
          rw [hl] at oa ⊢
          have noa : Xoa.length ≤ 1000000 := by rw [← hl]; simp; omega
          have HXoa := Lib.hid hXoa
          clear hl hXoa
          refine hK.out _ _ HX.cw (fun hHeld => ?_)
          clear hK K
          (try simp only [Act.put, List.getElem_toArray, List.getElem_cons_zero, List.getElem_cons_succ, List.setIfInBounds_toArray, List.set_cons_zero, List.set_cons_succ])
          refine wpAnyH_ready (rs := [10]) (by kernel_rfl) (by simp) ?_
          refine AllReadyH.cons rfl (fun K hK => ?_) AllReadyH.nil
          refine step_appendF intF rfl w3 (.tmp 61) (.tmp 66) 26 (.int .i64 0) 8 rfl Try.underlying26 info_int rfl (by decide) (by decide) P (.slice Aoa Xoa.length coa) Xoa [x] l 0 1 1 _ (by simp [Act.eval]) (by simp [Act.eval]) oa oL.rd (by simp; omega) HX.sz ?_
          intro Aob cob wy ob hg
          replace HX := HX.grown hg (fun q hq => (oa.bd q hq).1)
          clear hg oa
          obtain ⟨Xob, hXob⟩ : ∃ m, Xoa ++ [x] = m := ⟨_, rfl⟩
          have hl : (Xoa : List Int).length + [x].length = Xob.length := by rw [← hXob, List.length_append]
          rw [hXob] at ob
          rw [hl] at ob ⊢
          have nob : Xob.length ≤ 1000001 := by rw [← hl]; simp; omega
          have HXob := Lib.hid hXob
          clear hl hXob
          refine hK.out _ _ HX.cw (fun hHeld => ?_)
          clear hK K
          (try simp only [Act.put, List.getElem_toArray, List.getElem_cons_zero, List.getElem_cons_succ, List.setIfInBounds_toArray, List.set_cons_zero, List.set_cons_succ])
          clear oL
          refine wpAnyH_ready (rs := [14]) (by kernel_rfl) (by simp) ?_
          refine AllReadyH.cons rfl (fun K hK => ?_) AllReadyH.nil
          refine step_appendF intF rfl wy (.tmp 67) (.tmp 70) 26 (.int .i64 0) 8 rfl Try.underlying26 info_int rfl (by decide) (by decide) P (.slice Aob Xob.length cob) Xob (ys.drop k) b (if c4 = k then 0 else 0 + k * 1) (i - k) (c4 - k) P (by simp [Act.eval]) (by simp [Act.eval]) ob (HX.out.cut hk) (by simp; omega) HX.sz ?_
          intro Aoc coc wz oc hg
          replace HX := HX.grown hg (fun q hq => (ob.bd q hq).1)
          clear hg ob
          obtain ⟨Xoc, hXoc⟩ : ∃ m, Xob ++ (ys.drop k) = m := ⟨_, rfl⟩
          have hl : (Xob : List Int).length + (ys.drop k).length = Xoc.length := by rw [← hXoc, List.length_append]
          rw [hXoc] at oc
          rw [hl] at oc ⊢
          have noc : Xoc.length ≤ 2000001 := by rw [← hl]; simp; omega
          have HXoc := Lib.hid hXoc
          clear hl hXoc
          refine hK.out _ _ HX.cw (fun hHeld => ?_)
          clear hK K
          (try simp only [Act.put, List.getElem_toArray, List.getElem_cons_zero, List.getElem_cons_succ, List.setIfInBounds_toArray, List.set_cons_zero, List.set_cons_succ])
          refine wpAnyH_take (i := 15) (v := ?_) rfl (by kernel_rfl) (by kernel_rfl) (by kernel_rfl) (fun _ _ _ h => h) (Or.inl ⟨by rfl, ?_⟩) (by assumption) ?_
          rotate_left
          · intro w hSw; go_simp; (try with_reducible rfl)
          (try simp only [Act.put, List.getElem_toArray, List.getElem_cons_zero, List.getElem_cons_succ, List.setIfInBounds_toArray, List.set_cons_zero, List.set_cons_succ])
          refine wpAnyH_done (by kernel_rfl) ?_ _
          refine NoPanic.normal ?_
          obtain ⟨g2, rfl, hg2, _⟩ := oc.some_ (by rw [← HXoc.out, ← HXob.out]; simp; omega)
          have he : Xoc = insE (lessF (cmpC xs)) ys x := by rw [← HXoc.out, ← HXob.out, ← HXoa.out, List.nil_append, insE_eq HPL.out, List.append_assoc]; rfl
          subst he
          have HB2 := Lib.hid HX.bel
          have hnb := HX.nb
          have hPz := HX.sz
          replace oc := OwnF.toI (oc.mono HX.lo)
          have hlen := insE_len (lessF (cmpC xs)) ys x
          rw [← HN.out] at oc hlen ⊢
          clear HX hHeld
          subst hP
          go_wp2
          go_roundw
          case rel => exact ⟨i + 1, _, g2, _, by omega, by go_num, by rw [hlen, HYL.out], Lib.hid rfl, by rw [hlen, HYL.out] at oc; exact oc, HB2, hrw.below hnb hz2, hR.below hnb hBr, Nat.le_trans hz2 hPz⟩
          case measure => simp [intOf]; omega
        refine AllReadyH.cons rfl (fun K hK => ?_) AllReadyH.nil
        go_simp
        have oL : OwnF intF (wd.alloc (.cells #[.int .i64 x] 3)) P (.slice (some ⟨wd.heap.size, 0, none⟩) 1 1) [x] := OwnF.made intF #[.int .i64 x] [x] HX.sz (by simp [maxLen]) rfl (by intro y hy; cases List.mem_singleton.1 hy; exact HOK.out)
        replace HX := HX.alloc (.cells #[.int .i64 x] 3)
        obtain ⟨l, hq⟩ : ∃ q, wd.heap.size = q := ⟨_, rfl⟩
        rw [hq] at oL ⊢
        obtain ⟨w1, hw⟩ : ∃ v, wd.alloc (.cells #[.int .i64 x] 3) = v := ⟨_, rfl⟩
        rw [hw] at HX oL ⊢
        clear hw hq
        refine hK.out _ _ HX.cw (fun hHeld => ?_)
        clear hK K
        (try simp only [Act.put, List.getElem_toArray, List.getElem_cons_zero, List.getElem_cons_succ, List.setIfInBounds_toArray, List.set_cons_zero, List.set_cons_succ])
        refine wpAnyH_ready (rs := [0]) (by kernel_rfl) (by simp) ?_
        refine AllReadyH.cons rfl (fun K hK => ?_) AllReadyH.nil
        have oL0 := oL
        go_simp
        have oE : OwnF intF (w1.alloc (.cells #[] 3)) P (.slice (some ⟨w1.heap.size, 0, none⟩) 0 0) [] := OwnF.empty intF HX.sz
        replace oL := oL.alloc (.cells #[] 3)
        have hne : w1.heap.size ≠ l := by have h1 := (oL0.bd l rfl).2; omega
        replace HX := HX.alloc (.cells #[] 3)
        obtain ⟨e, hq⟩ : ∃ q, w1.heap.size = q := ⟨_, rfl⟩
        rw [hq] at oE hne ⊢
        obtain ⟨w2, hw⟩ : ∃ v, w1.alloc (.cells #[] 3) = v := ⟨_, rfl⟩
        rw [hw] at HX oE oL ⊢
        clear hw hq
        clear oL0
        refine hK.out _ _ HX.cw (fun hHeld => ?_)
        clear hK K
        (try simp only [Act.put, List.getElem_toArray, List.getElem_cons_zero, List.setIfInBounds_toArray, List.set_cons_zero, List.set_cons_succ])
        refine wpAnyH_ready (rs := [4]) (by kernel_rfl) (by simp) ?_
        refine AllReadyH.cons rfl (fun K hK => ?_) AllReadyH.nil
        refine step_appendF intF rfl w2 (.tmp 57) (.tmp 60) 26 (.int .i64 0) 8 rfl Try.underlying26 info_int rfl (by decide) (by decide) P (.slice (some ⟨e, 0, none⟩) 0 0) ([] : List Int) (ys.take k) b 0 k c4 P (by simp [Act.eval]) (by simp [Act.eval]) oE (HX.out.head hk) (by simp; omega) HX.sz ?_
        intro Aoa coa w3 oa hg
        replace HX := HX.grown hg (fun q hq => (oE.bd q hq).1)
        replace oL := oL.mark hg (fun q q' hq hq' => by cases hq; cases hq'; exact hne)
        clear hg oE
        obtain ⟨Xoa, hXoa⟩ : ∃ m, ([] : List Int) ++ (ys.take k) = m := ⟨_, rfl⟩
        have hl : (([] : List Int) : List Int).length + (ys.take k).length = Xoa.length := by rw [← hXoa, List.length_append]
        rw [hXoa] at oa
        rw [hl] at oa ⊢
        have noa : Xoa.length ≤ 1000000 := by rw [← hl]; simp; omega
        have HXoa := Lib.hid hXoa
        clear hl hXoa
        refine hK.out _ _ HX.cw (fun hHeld => ?_)
        clear hK K
        (try simp only [Act.put, List.getElem_toArray, List.getElem_cons_zero, List.getElem_cons_succ, List.setIfInBounds_toArray, List.set_cons_zero, List.set_cons_succ])
        refine wpAnyH_ready (rs := [10]) (by kernel_rfl) (by simp) ?_
        refine AllReadyH.cons rfl (fun K hK => ?_) AllReadyH.nil
        refine step_appendF intF rfl w3 (.tmp 61) (.tmp 66) 26 (.int .i64 0) 8 rfl Try.underlying26 info_int rfl (by decide) (by decide) P (.slice Aoa Xoa.length coa) Xoa [x] l 0 1 1 _ (by simp [Act.eval]) (by simp [Act.eval]) oa oL.rd (by simp; omega) HX.sz ?_
        intro Aob cob wy ob hg
        replace HX := HX.grown hg (fun q hq => (oa.bd q hq).1)
        clear hg oa
        obtain ⟨Xob, hXob⟩ : ∃ m, Xoa ++ [x] = m := ⟨_, rfl⟩
        have hl : (Xoa : List Int).length + [x].length = Xob.length := by rw [← hXob, List.length_append]
        rw [hXob] at ob
        rw [hl] at ob ⊢
        have nob : Xob.length ≤ 1000001 := by rw [← hl]; simp; omega
        have HXob := Lib.hid hXob
        clear hl hXob
        refine hK.out _ _ HX.cw (fun hHeld => ?_)
        clear hK K
        (try simp only [Act.put, List.getElem_toArray, List.getElem_cons_zero, List.getElem_cons_succ, List.setIfInBounds_toArray, List.set_cons_zero, List.set_cons_succ])
        clear oL
        refine wpAnyH_ready (rs := [14]) (by kernel_rfl) (by simp) ?_
        refine AllReadyH.cons rfl (fun K hK => ?_) AllReadyH.nil
        refine step_appendF intF rfl wy (.tmp 67) (.tmp 70) 26 (.int .i64 0) 8 rfl Try.underlying26 info_int rfl (by decide) (by decide) P (.slice Aob Xob.length cob) Xob (ys.drop k) b (if c4 = k then 0 else 0 + k * 1) (i - k) (c4 - k) P (by simp [Act.eval]) (by simp [Act.eval]) ob (HX.out.cut hk) (by simp; omega) HX.sz ?_
        intro Aoc coc wz oc hg
        replace HX := HX.grown hg (fun q hq => (ob.bd q hq).1)
        clear hg ob
        obtain ⟨Xoc, hXoc⟩ : ∃ m, Xob ++ (ys.drop k) = m := ⟨_, rfl⟩
        have hl : (Xob : List Int).length + (ys.drop k).length = Xoc.length := by rw [← hXoc, List.length_append]
        rw [hXoc] at oc
        rw [hl] at oc ⊢
        have noc : Xoc.length ≤ 2000001 := by rw [← hl]; simp; omega
        have HXoc := Lib.hid hXoc
        clear hl hXoc
        refine hK.out _ _ HX.cw (fun hHeld => ?_)
        clear hK K
        (try simp only [Act.put, List.getElem_toArray, List.getElem_cons_zero, List.getElem_cons_succ, List.setIfInBounds_toArray, List.set_cons_zero, List.set_cons_succ])
        refine wpAnyH_take (i := 15) (v := ?_) rfl (by kernel_rfl) (by kernel_rfl) (by kernel_rfl) (fun _ _ _ h => h) (Or.inl ⟨by rfl, ?_⟩) (by assumption) ?_
        rotate_left
        · intro w hSw; go_simp; (try with_reducible rfl)
        (try simp only [Act.put, List.getElem_toArray, List.getElem_cons_zero, List.getElem_cons_succ, List.setIfInBounds_toArray, List.set_cons_zero, List.set_cons_succ])
        refine wpAnyH_done (by kernel_rfl) ?_ _
        refine NoPanic.normal ?_
        obtain ⟨g2, rfl, hg2, _⟩ := oc.some_ (by rw [← HXoc.out, ← HXob.out]; simp; omega)
        have he : Xoc = insE (lessF (cmpC xs)) ys x := by rw [← HXoc.out, ← HXob.out, ← HXoa.out, List.nil_append, insE_eq HPL.out, List.append_assoc]; rfl
        subst he
        have HB2 := Lib.hid HX.bel
        have hnb := HX.nb
        have hPz := HX.sz
        replace oc := OwnF.toI (oc.mono HX.lo)
        have hlen := insE_len (lessF (cmpC xs)) ys x
        rw [← HN.out] at oc hlen ⊢
        clear HX hHeld
        subst hP
        go_wp2
        go_roundw
        case rel => exact ⟨i + 1, _, g2, _, by omega, by go_num, by rw [hlen, HYL.out], Lib.hid rfl, by rw [hlen, HYL.out] at oc; exact oc, HB2, hrw.below hnb hz2, hR.below hnb hBr, Nat.le_trans hz2 hPz⟩
        case measure => simp [intOf]; omega
      obtain ⟨m, hm⟩ : ∃ m, m + 1 = k := ⟨k - 1, by omega⟩
      have HM := Lib.hid hm
      have HBM : Hid (Behind (lessF (cmpC xs)) x ys (m + 1)) := Lib.hid (hm ▸ HBH.out)
      have hk0i : (0 : Int) ≤ (k : Int) := by omega
      have hkp : (0 : Int) < (k : Int) := by omega
      obtain ⟨y, HYY⟩ : ∃ y, Hid (ys.getD m 0 = y) := ⟨_, rfl⟩
      have hcy := own_at own (j := m) (by have := HYL.out; omega) HYY.out
      have hgy : ys[m]? = some y := by
        have hiw : m < ys.length := by have := HYL.out; omega
        have := HYY.out
        rw [List.getD_eq_getElem?_getD, List.getElem?_eq_getElem hiw] at this
        rw [List.getElem?_eq_getElem hiw]
        exact congrArg some this
      have hy := err_bd HG.out y
      have hcl := cmpC_less xs x y
      rw [HA1.out, HD1.out] at hcl
      obtain ⟨a2, ha2⟩ : ∃ a2, errW xs y = a2 := ⟨_, rfl⟩
      obtain ⟨d2, hd2⟩ : ∃ d2, errK xs y = d2 := ⟨_, rfl⟩
      rw [ha2, hd2] at hy hcl
      have HA2 := Lib.hid ha2
      have HD2 := Lib.hid hd2
      have m1 := mulBd hx.1.1 hx.1.2 (show 0 ≤ d2 by omega) hy.2.2
      have m2 := mulBd hy.1.1 hy.1.2 (show 0 ≤ d1 by omega) hx.2.2
      have g1 : IntKind.i64.wrap (a1 * d2) = a1 * d2 := IntWalk.i64_in _ (by omega)
      have g2 : IntKind.i64.wrap (a2 * d1) = a2 * d1 := IntWalk.i64_in _ (by omega)
      have e1 : IntKind.i64.wrap ((k : Int) - 1) = (m : Int) := by rw [IntWalk.i64_in _ (by omega)]; omega
      have e3 : IntKind.i64.wrap (m : Int) = (m : Int) := IntWalk.i64_in _ (by omega)
      have hm0 : (0 : Int) ≤ (m : Int) := by omega
      have hm1 : (m : Int) < (i : Int) := by omega
      clear ha2 hd2
      by_cases hle : a2 * d1 ≤ a1 * d2
      · have HPL : Hid (PlaceE (lessF (cmpC xs)) x ys k) := Lib.hid (hm ▸ place_at HBM.out hgy (by rw [hcl]; exact decide_eq_false (by omega)))
        clear hgy hcl hm hk0
        go_wp2_with fail
        refine (l14Errors_any A _ c B xs y a2 d2 _ hR hBr (by omega) (sheets_all HG.out) HA2.out HD2.out).mono ?_
        rintro e w' ⟨rfl, rfl⟩
        go_wp2
        clear hcy e1 e3 g1 g2 m1 m2 hm0 hm1 hle HA2 HD2 HYY
        have hkc : k ≤ c4 := Nat.le_trans hk own.rd.cap
        have HX : Py w wr (some ⟨b, 0, none⟩) i c4 ys wr.heap.size bw (off + i) x wr := ⟨own.rd.toF, HB.out, Below.refl _ _, Nat.le_refl _, HB.out.size, hcw, hbw⟩
        generalize hP : wr.heap.size = P at HX
        refine wp_region_noPanic ?_
        refine wp_region_held_drew (S := fun w' => w'.cell? ⟨bw, off + i, none⟩ = some (.int .i64 x)) (by kernel_rfl) hcw (fun hHeld => ?_)
        replace HX := HX.drew
        obtain ⟨wd, hwd⟩ : ∃ v, wr.drew = v := ⟨_, rfl⟩
        rw [hwd] at HX hHeld ⊢
        refine wpAnyH_take (i := 1) (v := ?_) rfl (by kernel_rfl) (by kernel_rfl) (by kernel_rfl) (fun _ _ _ h => h) (Or.inl ⟨by rfl, ?_⟩) (by assumption) ?_
        rotate_left
        · intro w hSw; go_simp; (try with_reducible rfl)
        (try simp only [Act.put, List.getElem_toArray, List.getElem_cons_zero, List.getElem_cons_succ, List.setIfInBounds_toArray, List.set_cons_zero, List.set_cons_succ])
        refine wpAnyH_take (i := 2) (v := ?_) rfl (by kernel_rfl) (by kernel_rfl) (by kernel_rfl) (fun _ _ _ h => h) (Or.inl ⟨by rfl, ?_⟩) (by assumption) ?_
        rotate_left
        · intro w hSw; go_simp; (try with_reducible rfl)
        (try simp only [Act.put, List.getElem_toArray, List.getElem_cons_zero, List.getElem_cons_succ, List.setIfInBounds_toArray, List.set_cons_zero, List.set_cons_succ])
        refine wpAnyH_take (i := 3) (v := .slice (some ⟨b, 0, none⟩) k c4) rfl (by kernel_rfl) (by kernel_rfl) (by kernel_rfl) (fun _ _ _ h => h) (Or.inl ⟨by rfl, ?_⟩) (by assumption) ?_
        · intro w hSw; go_simp; (try simp [go_sem]); (try rfl); (try (intro hx; exfalso; omega)); (try (split <;> simp))
        (try simp only [Act.put, List.getElem_toArray, List.getElem_cons_zero, List.getElem_cons_succ, List.setIfInBounds_toArray, List.set_cons_zero, List.set_cons_succ])
        refine wpAnyH_take (i := 5) (v := ?_) rfl (by kernel_rfl) (by kernel_rfl) (by kernel_rfl) (fun _ _ _ h => h) (Or.inl ⟨by rfl, ?_⟩) (by assumption) ?_
        rotate_left
        · intro w hSw; go_simp; (try with_reducible rfl)
        (try simp only [Act.put, List.getElem_toArray, List.getElem_cons_zero, List.getElem_cons_succ, List.setIfInBounds_toArray, List.set_cons_zero, List.set_cons_succ])
        refine wpAnyH_take (i := 6) (v := ?_) rfl (by kernel_rfl) (by kernel_rfl) (by kernel_rfl) (fun _ _ _ h => h) (Or.inl ⟨by rfl, ?_⟩) (by assumption) ?_
        rotate_left
        · intro w hSw; go_simp; (try with_reducible rfl)
        (try simp only [Act.put, List.getElem_toArray, List.getElem_cons_zero, List.getElem_cons_succ, List.setIfInBounds_toArray, List.set_cons_zero, List.set_cons_succ])
        refine wpAnyH_take (i := 7) (v := ?_) rfl (by kernel_rfl) (by kernel_rfl) (by kernel_rfl) (fun _ _ _ h => h) (Or.inl ⟨by rfl, ?_⟩) (by assumption) ?_
        rotate_left
        · intro w hSw; go_simp; (try with_reducible rfl)
        (try simp only [Act.put, List.getElem_toArray, List.getElem_cons_zero, List.getElem_cons_succ, List.setIfInBounds_toArray, List.set_cons_zero, List.set_cons_succ])
        refine wpAnyH_take (i := 8) (v := ?_) rfl (by kernel_rfl) (by kernel_rfl) (by kernel_rfl) (fun _ _ _ h => h) (Or.inl ⟨by rfl, ?_⟩) (by assumption) ?_
        rotate_left
        · intro w hSw; go_simp; (try with_reducible rfl)
        (try simp only [Act.put, List.getElem_toArray, List.getElem_cons_zero, List.getElem_cons_succ, List.setIfInBounds_toArray, List.set_cons_zero, List.set_cons_succ])
        refine wpAnyH_take (i := 11) (v := ?_) rfl (by kernel_rfl) (by kernel_rfl) (by kernel_rfl) (fun _ _ _ h => h) (Or.inl ⟨by rfl, ?_⟩) (by assumption) ?_
        rotate_left
        · intro w hSw; go_simp; (try with_reducible rfl)
        (try simp only [Act.put, List.getElem_toArray, List.getElem_cons_zero, List.getElem_cons_succ, List.setIfInBounds_toArray, List.set_cons_zero, List.set_cons_succ])
        refine wpAnyH_take (i := 12) (v := ?_) rfl (by kernel_rfl) (by kernel_rfl) (by kernel_rfl) (fun _ _ _ h => h) (Or.inl ⟨by rfl, ?_⟩) (by assumption) ?_
        rotate_left
        · intro w hSw; go_simp; (try with_reducible rfl)
        (try simp only [Act.put, List.getElem_toArray, List.getElem_cons_zero, List.getElem_cons_succ, List.setIfInBounds_toArray, List.set_cons_zero, List.set_cons_succ])
        refine wpAnyH_take (i := 13) (v := .slice (some ⟨b, if c4 = k then 0 else 0 + k * 1, none⟩) (i - k) (c4 - k)) rfl (by kernel_rfl) (by kernel_rfl) (by kernel_rfl) (fun _ _ _ h => h) (Or.inl ⟨by rfl, ?_⟩) (by assumption) ?_
        · intro w hSw; go_simp; (try simp [go_sem]); (try rfl); (try (intro hx; exfalso; omega)); (try (split <;> simp))
        (try simp only [Act.put, List.getElem_toArray, List.getElem_cons_zero, List.getElem_cons_succ, List.setIfInBounds_toArray, List.set_cons_zero, List.set_cons_succ])
        refine wpAnyH_ready (rs := [0, 9]) (by kernel_rfl) (by simp) ?_
        refine AllReadyH.cons rfl (fun K hK => ?_) ?_
        · skip
          go_simp
          have oE : OwnF intF (wd.alloc (.cells #[] 3)) P (.slice (some ⟨wd.heap.size, 0, none⟩) 0 0) [] := OwnF.empty intF HX.sz
          replace HX := HX.alloc (.cells #[] 3)
          obtain ⟨e, hq⟩ : ∃ q, wd.heap.size = q := ⟨_, rfl⟩
          rw [hq] at oE ⊢
          obtain ⟨w1, hw⟩ : ∃ v, wd.alloc (.cells #[] 3) = v := ⟨_, rfl⟩
          rw [hw] at HX oE ⊢
          clear hw hq
          refine hK.out _ _ HX.cw (fun hHeld => ?_)
          clear hK K
          (try simp only [Act.put, List.getElem_toArray, List.getElem_cons_zero, List.setIfInBounds_toArray, List.set_cons_zero, List.set_cons_succ])
          refine wpAnyH_ready (rs := [4, 9]) (by kernel_rfl) (by simp) ?_
          refine AllReadyH.cons rfl (fun K hK => ?_) ?_
          · skip
            refine step_appendF intF rfl w1 (.tmp 57) (.tmp 60) 26 (.int .i64 0) 8 rfl Try.underlying26 info_int rfl (by decide) (by decide) P (.slice (some ⟨e, 0, none⟩) 0 0) ([] : List Int) (ys.take k) b 0 k c4 P (by simp [Act.eval]) (by simp [Act.eval]) oE (HX.out.head hk) (by simp; omega) HX.sz ?_
            intro Aoa coa w2 oa hg
            replace HX := HX.grown hg (fun q hq => (oE.bd q hq).1)
            clear hg oE
            obtain ⟨Xoa, hXoa⟩ : ∃ m, ([] : List Int) ++ (ys.take k) = m := ⟨_, rfl⟩
            have hl : (([] : List Int) : List Int).length + (ys.take k).length = Xoa.length := by rw [← hXoa, List.length_append]
            rw [hXoa] at oa
            rw [hl] at oa ⊢
            have noa : Xoa.length ≤ 1000000 := by rw [← hl]; simp; omega
            have HXoa := Lib.hid hXoa
            clear hl hXoa
            refine hK.out _ _ HX.cw (fun hHeld => ?_)
            clear hK K
            (try simp only [Act.put, List.getElem_toArray, List.getElem_cons_zero, List.getElem_cons_succ, List.setIfInBounds_toArray, List.set_cons_zero, List.set_cons_succ])
            refine wpAnyH_ready (rs := [9]) (by kernel_rfl) (by simp) ?_
            refine AllReadyH.cons rfl (fun K hK => ?_) AllReadyH.nil
            go_simp
            have oL : OwnF intF (w2.alloc (.cells #[.int .i64 x] 3)) P (.slice (some ⟨w2.heap.size, 0, none⟩) 1 1) [x] := OwnF.made intF #[.int .i64 x] [x] HX.sz (by simp [maxLen]) rfl (by intro y hy; cases List.mem_singleton.1 hy; exact HOK.out)
            replace oa := oa.alloc (.cells #[.int .i64 x] 3)
            replace HX := HX.alloc (.cells #[.int .i64 x] 3)
            obtain ⟨l, hq⟩ : ∃ q, w2.heap.size = q := ⟨_, rfl⟩
            rw [hq] at oL ⊢
            obtain ⟨w3, hw⟩ : ∃ v, w2.alloc (.cells #[.int .i64 x] 3) = v := ⟨_, rfl⟩
            rw [hw] at HX oL oa ⊢
            clear hw hq
            refine hK.out _ _ HX.cw (fun hHeld => ?_)
            clear hK K
            (try simp only [Act.put, List.getElem_toArray, List.getElem_cons_zero, List.getElem_cons_succ, List.setIfInBounds_toArray, List.set_cons_zero, List.set_cons_succ])
            refine wpAnyH_ready (rs := [10]) (by kernel_rfl) (by simp) ?_
            refine AllReadyH.cons rfl (fun K hK => ?_) AllReadyH.nil
            refine step_appendF intF rfl w3 (.tmp 61) (.tmp 66) 26 (.int .i64 0) 8 rfl Try.underlying26 info_int rfl (by decide) (by decide) P (.slice Aoa Xoa.length coa) Xoa [x] l 0 1 1 _ (by simp [Act.eval]) (by simp [Act.eval]) oa oL.rd (by simp; omega) HX.sz ?_
            intro Aob cob wy ob hg
            replace HX := HX.grown hg (fun q hq => (oa.bd q hq).1)
            clear hg oa
            obtain ⟨Xob, hXob⟩ : ∃ m, Xoa ++ [x] = m := ⟨_, rfl⟩
            have hl : (Xoa : List Int).length + [x].length = Xob.length := by rw [← hXob, List.length_append]
            rw [hXob] at ob
            rw [hl] at ob ⊢
            have nob : Xob.length ≤ 1000001 := by rw [← hl]; simp; omega
            have HXob := Lib.hid hXob
            clear hl hXob
            refine hK.out _ _ HX.cw (fun hHeld => ?_)
            clear hK K
            (try simp only [Act.put, List.getElem_toArray, List.getElem_cons_zero, List.getElem_cons_succ, List.setIfInBounds_toArray, List.set_cons_zero, List.set_cons_succ])
            clear oL
            refine wpAnyH_ready (rs := [14]) (by kernel_rfl) (by simp) ?_
            refine AllReadyH.cons rfl (fun K hK => ?_) AllReadyH.nil
            refine step_appendF intF rfl wy (.tmp 67) (.tmp 70) 26 (.int .i64 0) 8 rfl Try.underlying26 info_int rfl (by decide) (by decide) P (.slice Aob Xob.length cob) Xob (ys.drop k) b (if c4 = k then 0 else 0 + k * 1) (i - k) (c4 - k) P (by simp [Act.eval]) (by simp [Act.eval]) ob (HX.out.cut hk) (by simp; omega) HX.sz ?_
            intro Aoc coc wz oc hg
            replace HX := HX.grown hg (fun q hq => (ob.bd q hq).1)
            clear hg ob
            obtain ⟨Xoc, hXoc⟩ : ∃ m, Xob ++ (ys.drop k) = m := ⟨_, rfl⟩
            have hl : (Xob : List Int).length + (ys.drop k).length = Xoc.length := by rw [← hXoc, List.length_append]
            rw [hXoc] at oc
            rw [hl] at oc ⊢
            have noc : Xoc.length ≤ 2000001 := by rw [← hl]; simp; omega
            have HXoc := Lib.hid hXoc
            clear hl hXoc
            refine hK.out _ _ HX.cw (fun hHeld => ?_)
            clear hK K
            (try simp only [Act.put, List.getElem_toArray, List.getElem_cons_zero, List.getElem_cons_succ, List.setIfInBounds_toArray, List.set_cons_zero, List.set_cons_succ])
            refine wpAnyH_take (i := 15) (v := ?_) rfl (by kernel_rfl) (by kernel_rfl) (by kernel_rfl) (fun _ _ _ h => h) (Or.inl ⟨by rfl, ?_⟩) (by assumption) ?_
            rotate_left
            · intro w hSw; go_simp; (try with_reducible rfl)
            (try simp only [Act.put, List.getElem_toArray, List.getElem_cons_zero, List.getElem_cons_succ, List.setIfInBounds_toArray, List.set_cons_zero, List.set_cons_succ])
            refine wpAnyH_done (by kernel_rfl) ?_ _
            refine NoPanic.normal ?_
            obtain ⟨g2, rfl, hg2, _⟩ := oc.some_ (by rw [← HXoc.out, ← HXob.out]; simp; omega)
            have he : Xoc = insE (lessF (cmpC xs)) ys x := by rw [← HXoc.out, ← HXob.out, ← HXoa.out, List.nil_append, insE_eq HPL.out, List.append_assoc]; rfl
            subst he
            have HB2 := Lib.hid HX.bel
            have hnb := HX.nb
            have hPz := HX.sz
            replace oc := OwnF.toI (oc.mono HX.lo)
            have hlen := insE_len (lessF (cmpC xs)) ys x
            rw [← HN.out] at oc hlen ⊢
            clear HX hHeld
            subst hP
            go_wp2
            go_roundw
            case rel => exact ⟨i + 1, _, g2, _, by omega, by go_num, by rw [hlen, HYL.out], Lib.hid rfl, by rw [hlen, HYL.out] at oc; exact oc, HB2, hrw.below hnb hz2, hR.below hnb hBr, Nat.le_trans hz2 hPz⟩
            case measure => simp [intOf]; omega
          refine AllReadyH.cons rfl (fun K hK => ?_) AllReadyH.nil
          have oE0 := oE
          go_simp
          have oL : OwnF intF (w1.alloc (.cells #[.int .i64 x] 3)) P (.slice (some ⟨w1.heap.size, 0, none⟩) 1 1) [x] := OwnF.made intF #[.int .i64 x] [x] HX.sz (by simp [maxLen]) rfl (by intro y hy; cases List.mem_singleton.1 hy; exact HOK.out)
          replace oE := oE.alloc (.cells #[.int .i64 x] 3)
          have hne : w1.heap.size ≠ e := by have h1 := (oE0.bd e rfl).2; omega
          replace HX := HX.alloc (.cells #[.int .i64 x] 3)
          obtain ⟨l, hq⟩ : ∃ q, w1.heap.size = q := ⟨_, rfl⟩
          rw [hq] at oL hne ⊢
          obtain ⟨w2, hw⟩ : ∃ v, w1.alloc (.cells #[.int .i64 x] 3) = v := ⟨_, rfl⟩
          rw [hw] at HX oL oE ⊢
          clear hw hq
          clear oE0
          refine hK.out _ _ HX.cw (fun hHeld => ?_)
          clear hK K
          (try simp only [Act.put, List.getElem_toArray, List.getElem_cons_zero, List.getElem_cons_succ, List.setIfInBounds_toArray, List.set_cons_zero, List.set_cons_succ])
          refine wpAnyH_ready (rs := [4]) (by kernel_rfl) (by simp) ?_
          refine AllReadyH.cons rfl (fun K hK => ?_) AllReadyH.nil
          refine step_appendF intF rfl w2 (.tmp 57) (.tmp 60) 26 (.int .i64 0) 8 rfl Try.underlying26 info_int rfl (by decide) (by decide) P (.slice (some ⟨e, 0, none⟩) 0 0) ([] : List Int) (ys.take k) b 0 k c4 P (by simp [Act.eval]) (by simp [Act.eval]) oE (HX.out.head hk) (by simp; omega) HX.sz ?_
          intro Aoa coa w3 oa hg
          replace HX := HX.grown hg (fun q hq => (oE.bd q hq).1)
          replace oL := oL.mark hg (fun q q' hq hq' => by cases hq; cases hq'; exact hne.symm)
          clear hg oE
          obtain ⟨Xoa, hXoa⟩ : ∃ m, ([] : List Int) ++ (ys.take k) = m := ⟨_, rfl⟩
          have hl : (([] : List Int) : List Int).length + (ys.take k).length = Xoa.length := by rw [← hXoa, List.length_append]
          rw [hXoa] at oa
          rw [hl] at oa ⊢
          have noa : Xoa.length ≤ 1000000 := by rw [← hl]; simp; omega
          have HXoa := Lib.hid hXoa
          clear hl hXoa
          refine hK.out _ _ HX.cw (fun hHeld => ?_)
          clear hK K
          (try simp only [Act.put, List.getElem_toArray, List.getElem_cons_zero, List.getElem_cons_succ, List.setIfInBounds_toArray, List.set_cons_zero, List.set_cons_succ])
          refine wpAnyH_ready (rs := [10]) (by kernel_rfl) (by simp) ?_
          refine AllReadyH.cons rfl (fun K hK => ?_) AllReadyH.nil
          refine step_appendF intF rfl w3 (.tmp 61) (.tmp 66) 26 (.int .i64 0) 8 rfl Try.underlying26 info_int rfl (by decide) (by decide) P (.slice Aoa Xoa.length coa) Xoa [x] l 0 1 1 _ (by simp [Act.eval]) (by simp [Act.eval]) oa oL.rd (by simp; omega) HX.sz ?_
          intro Aob cob wy ob hg
          replace HX := HX.grown hg (fun q hq => (oa.bd q hq).1)
          clear hg oa
          obtain ⟨Xob, hXob⟩ : ∃ m, Xoa ++ [x] = m := ⟨_, rfl⟩
          have hl : (Xoa : List Int).length + [x].length = Xob.length := by rw [← hXob, List.length_append]
          rw [hXob] at ob
          rw [hl] at ob ⊢
          have nob : Xob.length ≤ 1000001 := by rw [← hl]; simp; omega
          have HXob := Lib.hid hXob
          clear hl hXob
          refine hK.out _ _ HX.cw (fun hHeld => ?_)
          clear hK K
          (try simp only [Act.put, List.getElem_toArray, List.getElem_cons_zero, List.getElem_cons_succ, List.setIfInBounds_toArray, List.set_cons_zero, List.set_cons_succ])
          clear oL
          refine wpAnyH_ready (rs := [14]) (by kernel_rfl) (by simp) ?_
          refine AllReadyH.cons rfl (fun K hK => ?_) AllReadyH.nil
          refine step_appendF intF rfl wy (.tmp 67) (.tmp 70) 26 (.int .i64 0) 8 rfl Try.underlying26 info_int rfl (by decide) (by decide) P (.slice Aob Xob.length cob) Xob (ys.drop k) b (if c4 = k then 0 else 0 + k * 1) (i - k) (c4 - k) P (by simp [Act.eval]) (by simp [Act.eval]) ob (HX.out.cut hk) (by simp; omega) HX.sz ?_
          intro Aoc coc wz oc hg
          replace HX := HX.grown hg (fun q hq => (ob.bd q hq).1)
          clear hg ob
          obtain ⟨Xoc, hXoc⟩ : ∃ m, Xob ++ (ys.drop k) = m := ⟨_, rfl⟩
          have hl : (Xob : List Int).length + (ys.drop k).length = Xoc.length := by rw [← hXoc, List.length_append]
          rw [hXoc] at oc
          rw [hl] at oc ⊢
          have noc : Xoc.length ≤ 2000001 := by rw [← hl]; simp; omega
          have HXoc := Lib.hid hXoc
          clear hl hXoc
          refine hK.out _ _ HX.cw (fun hHeld => ?_)
          clear hK K
          (try simp only [Act.put, List.getElem_toArray, List.getElem_cons_zero, List.getElem_cons_succ, List.setIfInBounds_toArray, List.set_cons_zero, List.set_cons_succ])
          refine wpAnyH_take (i := 15) (v := ?_) rfl (by kernel_rfl) (by kernel_rfl) (by kernel_rfl) (fun _ _ _ h => h) (Or.inl ⟨by rfl, ?_⟩) (by assumption) ?_
          rotate_left
          · intro w hSw; go_simp; (try with_reducible rfl)
          (try simp only [Act.put, List.getElem_toArray, List.getElem_cons_zero, List.getElem_cons_succ, List.setIfInBounds_toArray, List.set_cons_zero, List.set_cons_succ])
          refine wpAnyH_done (by kernel_rfl) ?_ _
          refine NoPanic.normal ?_
          obtain ⟨g2, rfl, hg2, _⟩ := oc.some_ (by rw [← HXoc.out, ← HXob.out]; simp; omega)
          have he : Xoc = insE (lessF (cmpC xs)) ys x := by rw [← HXoc.out, ← HXob.out, ← HXoa.out, List.nil_append, insE_eq HPL.out, List.append_assoc]; rfl
          subst he
          have HB2 := Lib.hid HX.bel
          have hnb := HX.nb
          have hPz := HX.sz
          replace oc := OwnF.toI (oc.mono HX.lo)
          have hlen := insE_len (lessF (cmpC xs)) ys x
          rw [← HN.out] at oc hlen ⊢
          clear HX hHeld
          subst hP
          go_wp2
          go_roundw
          case rel => exact ⟨i + 1, _, g2, _, by omega, by go_num, by rw [hlen, HYL.out], Lib.hid rfl, by rw [hlen, HYL.out] at oc; exact oc, HB2, hrw.below hnb hz2, hR.below hnb hBr, Nat.le_trans hz2 hPz⟩
          case measure => simp [intOf]; omega
        refine AllReadyH.cons rfl (fun K hK => ?_) AllReadyH.nil
        go_simp
        have oL : OwnF intF (wd.alloc (.cells #[.int .i64 x] 3)) P (.slice (some ⟨wd.heap.size, 0, none⟩) 1 1) [x] := OwnF.made intF #[.int .i64 x] [x] HX.sz (by simp [maxLen]) rfl (by intro y hy; cases List.mem_singleton.1 hy; exact HOK.out)
        replace HX := HX.alloc (.cells #[.int .i64 x] 3)
        obtain ⟨l, hq⟩ : ∃ q, wd.heap.size = q := ⟨_, rfl⟩
        rw [hq] at oL ⊢
        obtain ⟨w1, hw⟩ : ∃ v, wd.alloc (.cells #[.int .i64 x] 3) = v := ⟨_, rfl⟩
        rw [hw] at HX oL ⊢
        clear hw hq
        refine hK.out _ _ HX.cw (fun hHeld => ?_)
        clear hK K
        (try simp only [Act.put, List.getElem_toArray, List.getElem_cons_zero, List.getElem_cons_succ, List.setIfInBounds_toArray, List.set_cons_zero, List.set_cons_succ])
        refine wpAnyH_ready (rs := [0]) (by kernel_rfl) (by simp) ?_
        refine AllReadyH.cons rfl (fun K hK => ?_) AllReadyH.nil
        have oL0 := oL
        go_simp
        have oE : OwnF intF (w1.alloc (.cells #[] 3)) P (.slice (some ⟨w1.heap.size, 0, none⟩) 0 0) [] := OwnF.empty intF HX.sz
        replace oL := oL.alloc (.cells #[] 3)
        have hne : w1.heap.size ≠ l := by have h1 := (oL0.bd l rfl).2; omega
        replace HX := HX.alloc (.cells #[] 3)
        obtain ⟨e, hq⟩ : ∃ q, w1.heap.size = q := ⟨_, rfl⟩
        rw [hq] at oE hne ⊢
        obtain ⟨w2, hw⟩ : ∃ v, w1.alloc (.cells #[] 3) = v := ⟨_, rfl⟩
        rw [hw] at HX oE oL ⊢
        clear hw hq
        clear oL0
        refine hK.out _ _ HX.cw (fun hHeld => ?_)
        clear hK K
        (try simp only [Act.put, List.getElem_toArray, List.getElem_cons_zero, List.setIfInBounds_toArray, List.set_cons_zero, List.set_cons_succ])
        refine wpAnyH_ready (rs := [4]) (by kernel_rfl) (by simp) ?_
        refine AllReadyH.cons rfl (fun K hK => ?_) AllReadyH.nil
        refine step_appendF intF rfl w2 (.tmp 57) (.tmp 60) 26 (.int .i64 0) 8 rfl Try.underlying26 info_int rfl (by decide) (by decide) P (.slice (some ⟨e, 0, none⟩) 0 0) ([] : List Int) (ys.take k) b 0 k c4 P (by simp [Act.eval]) (by simp [Act.eval]) oE (HX.out.head hk) (by simp; omega) HX.sz ?_
        intro Aoa coa w3 oa hg
        replace HX := HX.grown hg (fun q hq => (oE.bd q hq).1)
        replace oL := oL.mark hg (fun q q' hq hq' => by cases hq; cases hq'; exact hne)
        clear hg oE
        obtain ⟨Xoa, hXoa⟩ : ∃ m, ([] : List Int) ++ (ys.take k) = m := ⟨_, rfl⟩
        have hl : (([] : List Int) : List Int).length + (ys.take k).length = Xoa.length := by rw [← hXoa, List.length_append]
        rw [hXoa] at oa
        rw [hl] at oa ⊢
        have noa : Xoa.length ≤ 1000000 := by rw [← hl]; simp; omega
        have HXoa := Lib.hid hXoa
        clear hl hXoa
        refine hK.out _ _ HX.cw (fun hHeld => ?_)
        clear hK K
        (try simp only [Act.put, List.getElem_toArray, List.getElem_cons_zero, List.getElem_cons_succ, List.setIfInBounds_toArray, List.set_cons_zero, List.set_cons_succ])
        refine wpAnyH_ready (rs := [10]) (by kernel_rfl) (by simp) ?_
        refine AllReadyH.cons rfl (fun K hK => ?_) AllReadyH.nil
        refine step_appendF intF rfl w3 (.tmp 61) (.tmp 66) 26 (.int .i64 0) 8 rfl Try.underlying26 info_int rfl (by decide) (by decide) P (.slice Aoa Xoa.length coa) Xoa [x] l 0 1 1 _ (by simp [Act.eval]) (by simp [Act.eval]) oa oL.rd (by simp; omega) HX.sz ?_
        intro Aob cob wy ob hg
        replace HX := HX.grown hg (fun q hq => (oa.bd q hq).1)
        clear hg oa
        obtain ⟨Xob, hXob⟩ : ∃ m, Xoa ++ [x] = m := ⟨_, rfl⟩
        have hl : (Xoa : List Int).length + [x].length = Xob.length := by rw [← hXob, List.length_append]
        rw [hXob] at ob
        rw [hl] at ob ⊢
        have nob : Xob.length ≤ 1000001 := by rw [← hl]; simp; omega
        have HXob := Lib.hid hXob
        clear hl hXob
        refine hK.out _ _ HX.cw (fun hHeld => ?_)
        clear hK K
        (try simp only [Act.put, List.getElem_toArray, List.getElem_cons_zero, List.getElem_cons_succ, List.setIfInBounds_toArray, List.set_cons_zero, List.set_cons_succ])
        clear oL
        refine wpAnyH_ready (rs := [14]) (by kernel_rfl) (by simp) ?_
        refine AllReadyH.cons rfl (fun K hK => ?_) AllReadyH.nil
        refine step_appendF intF rfl wy (.tmp 67) (.tmp 70) 26 (.int .i64 0) 8 rfl Try.underlying26 info_int rfl (by decide) (by decide) P (.slice Aob Xob.length cob) Xob (ys.drop k) b (if c4 = k then 0 else 0 + k * 1) (i - k) (c4 - k) P (by simp [Act.eval]) (by simp [Act.eval]) ob (HX.out.cut hk) (by simp; omega) HX.sz ?_
        intro Aoc coc wz oc hg
        replace HX := HX.grown hg (fun q hq => (ob.bd q hq).1)
        clear hg ob
        obtain ⟨Xoc, hXoc⟩ : ∃ m, Xob ++ (ys.drop k) = m := ⟨_, rfl⟩
        have hl : (Xob : List Int).length + (ys.drop k).length = Xoc.length := by rw [← hXoc, List.length_append]
        rw [hXoc] at oc
        rw [hl] at oc ⊢
        have noc : Xoc.length ≤ 2000001 := by rw [← hl]; simp; omega
        have HXoc := Lib.hid hXoc
        clear hl hXoc
        refine hK.out _ _ HX.cw (fun hHeld => ?_)
        clear hK K
        (try simp only [Act.put, List.getElem_toArray, List.getElem_cons_zero, List.getElem_cons_succ, List.setIfInBounds_toArray, List.set_cons_zero, List.set_cons_succ])
        refine wpAnyH_take (i := 15) (v := ?_) rfl (by kernel_rfl) (by kernel_rfl) (by kernel_rfl) (fun _ _ _ h => h) (Or.inl ⟨by rfl, ?_⟩) (by assumption) ?_
        rotate_left
        · intro w hSw; go_simp; (try with_reducible rfl)
        (try simp only [Act.put, List.getElem_toArray, List.getElem_cons_zero, List.getElem_cons_succ, List.setIfInBounds_toArray, List.set_cons_zero, List.set_cons_succ])
        refine wpAnyH_done (by kernel_rfl) ?_ _
        refine NoPanic.normal ?_
        obtain ⟨g2, rfl, hg2, _⟩ := oc.some_ (by rw [← HXoc.out, ← HXob.out]; simp; omega)
        have he : Xoc = insE (lessF (cmpC xs)) ys x := by rw [← HXoc.out, ← HXob.out, ← HXoa.out, List.nil_append, insE_eq HPL.out, List.append_assoc]; rfl
        subst he
        have HB2 := Lib.hid HX.bel
        have hnb := HX.nb
        have hPz := HX.sz
        replace oc := OwnF.toI (oc.mono HX.lo)
        have hlen := insE_len (lessF (cmpC xs)) ys x
        rw [← HN.out] at oc hlen ⊢
        clear HX hHeld
        subst hP
        go_wp2
        go_roundw
        case rel => exact ⟨i + 1, _, g2, _, by omega, by go_num, by rw [hlen, HYL.out], Lib.hid rfl, by rw [hlen, HYL.out] at oc; exact oc, HB2, hrw.below hnb hz2, hR.below hnb hBr, Nat.le_trans hz2 hPz⟩
        case measure => simp [intOf]; omega
      · have HBN := Lib.hid (behind_step HBM.out hgy (by rw [hcl]; exact decide_eq_true (by omega)))
        have hmk : m ≤ i := by omega
        have hmt : m < k := by omega
        clear hgy hcl hm hk0
        go_wp2_with fail
        refine (l14Errors_any A _ c B xs y a2 d2 _ hR hBr (by omega) (sheets_all HG.out) HA2.out HD2.out).mono ?_
        rintro e w' ⟨rfl, rfl⟩
        go_wp2
        go_roundw
        case rel => exact ⟨m, hmk, by go_num, HBN, by first | rfl | trivial⟩
        case measure => simp [intOf]; omega
end Go.Proofs.Ytnpojmaipndpmaa
