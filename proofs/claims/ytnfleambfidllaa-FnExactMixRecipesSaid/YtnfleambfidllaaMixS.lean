/- The walk of the model's MixRecipes. No condition. -/
import Derived.Test.YtnfleambfidllaaMixI
import Derived.Test.YtnfleambfidllaaMixIns
namespace Go.Proofs.Ytnfleambfidllaa
open Go.RowKit

theorem step_appendF {α : Type} (F : Flat α) {P : Program} {ops : Array Oper} {o : Oper} {a : Act} {K : Act → World → Prop} {Q : Exit → Act → World → Prop} {E : Prop} (hgd : o.guard = none) (w : World) (s x : Operand) (T : TypeId) (z : Value) (bytes : Nat)
    (ho : o.op = .call { callee := .builtin .append, args := #[s, x], argTypes := #[T, T] }) (ht : P.underlying T = some (.slice F.t)) (hinfo : (P.info? F.t).map (fun i => (i.zero, i.size, i.bytes)) = some (some z, F.k, bytes))
    (hzs : z.cells.size = F.k) (hk : 0 < F.k) (hby : bytes ≤ 1024)
    (lo : Nat) (v : Value) (xs ys : List α) (b off m c B : Nat)
    (hs : a.eval s = v) (hx : a.eval x = .slice (some ⟨b, off, none⟩) m c) (hown : OwnF F w lo v xs) (hy : RdF F w B (some ⟨b, off, none⟩) m c ys) (hlen : xs.length + ys.length ≤ 1073741824) (hlo : lo ≤ w.heap.size)
    (h : ∀ A' c' w', OwnF F w' lo (.slice A' (xs.length + ys.length) c') (xs ++ ys) → w.grownBy w' v.ownBlock → K (a.put o.dst (.slice A' (xs.length + ys.length) c')) w') :
    if Region.wanted o (yielded ops a.tmps) = true then Oper.wp P o a w K Q else E := by
  rw [if_pos (show Region.wanted o (yielded ops a.tmps) = true by simp [Region.wanted, hgd])]
  exact wp_appendF F w s x T z bytes ho ht hinfo hzs hk hby lo v xs ys b off m c B hs hx hown hy hlen hlo h
/-- What is known while the mixture is put together anew. -/
structure Mx (w : World) (B4 P : Nat) (A9 : Option Addr) (c9 : Nat) (T : List DyePartR) (g8 c8 : Nat) (M : List DyePartR) (wx : World) : Prop where
  out : RdF dyePartF wx P (some ⟨g8, 0, none⟩) M.length c8 M
  all : RdF dyePartF wx B4 A9 T.length c9 T
  bel : Below w.heap.size w wx
  sz : P ≤ wx.heap.size
  b4 : B4 ≤ P
  lo : w.heap.size ≤ P
section
variable {w wx wy : World} {B4 P g8 c8 c9 : Nat} {A9 : Option Addr} {T M : List DyePartR}
theorem Mx.drew (h : Mx w B4 P A9 c9 T g8 c8 M wx) : Mx w B4 P A9 c9 T g8 c8 M wx.drew := ⟨h.out.drew, h.all.drew, belowD h.bel, h.sz, h.b4, h.lo⟩
theorem Mx.alloc (h : Mx w B4 P A9 c9 T g8 c8 M wx) (o : Obj) : Mx w B4 P A9 c9 T g8 c8 M (wx.alloc o) :=
  ⟨h.out.alloc h.sz o, h.all.alloc (Nat.le_trans h.b4 h.sz) o, h.bel.alloc h.bel.size o, by have := h.sz; simp; omega, h.b4, h.lo⟩
theorem Mx.grown (h : Mx w B4 P A9 c9 T g8 c8 M wx) {row : Option Nat} (hg : wx.grownBy wy row) (hr : ∀ k, row = some k → P ≤ k) : Mx w B4 P A9 c9 T g8 c8 M wy :=
  ⟨h.out.mark hg hr h.sz, h.all.mark hg (fun k hk => Nat.le_trans h.b4 (hr k hk)) (Nat.le_trans h.b4 h.sz), h.bel.grown hg h.bel.size (fun k hk => Nat.le_trans h.lo (hr k hk)), Nat.le_trans h.sz hg.size, h.b4, h.lo⟩
end
set_option maxRecDepth 100000 in
set_option maxHeartbeats 8000000 in
theorem specMixRecipes_any (A : Option Addr) (n c B : Nat) (a : List DyePartR) (A' : Option Addr) (n' c' B' : Nat) (b : List DyePartR) (sh : Int) (w : World) (h : RdF dyePartF w B A n c a) (hB : B ≤ w.heap.size) (h' : RdF dyePartF w B' A' n' c' b) (hB' : B' ≤ w.heap.size) :
    Calls Try.prog 22 #[.slice A n c, .slice A' n' c', .int .i64 sh] w (OutF dyePartF w (mixR a b sh) (mixOk a b sh)) := by
  obtain rfl := h.len
  obtain rfl := h'.len
  cases ha : recB a
  case false =>
    have H2 := Lib.hid (show mixOk a b sh = false by simp [mixOk, ha])
    have H := Lib.hid (mix_no H2.out)
    rw [H.out, H2.out]
    go_enter Try.func22, Try.ntmps22
    go_wp2_with fail
    refine (l7Good_any A _ c B a _ h hB).mono ?_
    rintro e w1 ⟨rfl, hb⟩
    rw [ha]
    go_wp2
    go_ret2
    exact ⟨_, 0, rfl, OwnF.empty _ hb.size, hb.alloc hb.size _⟩
  cases hb : recB b
  case false =>
    have H2 := Lib.hid (show mixOk a b sh = false by simp [mixOk, hb])
    have H := Lib.hid (mix_no H2.out)
    rw [H.out, H2.out]
    go_enter Try.func22, Try.ntmps22
    go_wp2_with fail
    refine (l7Good_any A _ c B a _ h hB).mono ?_
    rintro e w1 ⟨rfl, hb1⟩
    have hz1 := hb1.size
    have hR' := h'.all hb1 hB'
    rw [ha]
    go_wp2_with fail
    refine (l7Good_any A' _ c' B' b _ hR' (by omega)).mono ?_
    rintro e w2 ⟨rfl, hb2⟩
    rw [hb]
    have HB2 := hb1.trans (hb2.mono hz1)
    go_wp2
    go_ret2
    exact ⟨_, 0, rfl, OwnF.empty _ HB2.size, HB2.alloc HB2.size _⟩
  have HAR := Lib.hid ha
  have HBR := Lib.hid hb
  by_cases hs : inB sh 0 100 = true
  rotate_left
  · have hs' := not_false hs
    have H2 := Lib.hid (show mixOk a b sh = false by simp [mixOk, hs'])
    have H := Lib.hid (mix_no H2.out)
    rw [H.out, H2.out]
    go_enter Try.func22, Try.ntmps22
    go_wp2_with fail
    refine (l7Good_any A _ c B a _ h hB).mono ?_
    rintro e w1 ⟨rfl, hb1⟩
    have hz1 := hb1.size
    have hR' := h'.all hb1 hB'
    rw [ha]
    go_wp2_with fail
    refine (l7Good_any A' _ c' B' b _ hR' (by omega)).mono ?_
    rintro e w2 ⟨rfl, hb2⟩
    rw [hb]
    have HB2 := hb1.trans (hb2.mono hz1)
    go_wp2_with ((go_at_call 50; (with_reducible refine (l1In_any _ _ _ _).mono ?_); rintro e w' ⟨rfl, rfl⟩))
    go_ret2
    exact ⟨_, 0, rfl, OwnF.empty _ HB2.size, HB2.alloc HB2.size _⟩
  have hsh := inB_yes hs
  have hla := rec_len ha
  have hlb := rec_len hb
  have hok : mixOk a b sh = recB (mixL a b sh) := by unfold mixOk; rw [ha, hb, hs]; rfl
  have HOKK := Lib.hid hok
  clear hok
  go_enter Try.func22, Try.ntmps22
  go_wp2_with fail
  refine (l7Good_any A _ c B a _ h hB).mono ?_
  rintro e w1 ⟨rfl, hb1⟩
  have hz1 := hb1.size
  have hR1 := h.all hb1 hB
  have hR1' := h'.all hb1 hB'
  rw [ha]
  go_wp2_with fail
  refine (l7Good_any A' _ c' B' b _ hR1' (by omega)).mono ?_
  rintro e w2 ⟨rfl, hb2⟩
  have HB2 := hb1.trans (hb2.mono hz1)
  have hz2 := HB2.size
  have hR2 := h.all HB2 hB
  have hR2' := h'.all HB2 hB'
  rw [hb]
  clear hb1 hb2 hR1 hR1'
  obtain ⟨b1, o1, rfl, _⟩ := hR2.cells (by omega)
  obtain ⟨b2, o2, rfl, _⟩ := hR2'.cells (by omega)
  have own8 := OwnF.empty dyePartF (w := w2) (lo := w.heap.size) hz2
  have own9 := OwnF.empty dyePartF (w := w2.alloc (.cells #[] 43)) (lo := w2.heap.size + 1) (by simp)
  rw [show (w2.alloc (.cells #[] 43)).heap.size = w2.heap.size + 1 by simp] at own9
  have HB3 := (HB2.alloc hz2 (.cells #[] 43)).alloc (by simp; omega) (.cells #[] 43)
  replace own8 := own8.alloc (.cells #[] 43)
  have hR3 := (hR2.alloc (by omega) (.cells #[] 43)).alloc (by simp; omega) (.cells #[] 43)
  have hR3' := (hR2'.alloc (by omega) (.cells #[] 43)).alloc (by simp; omega) (.cells #[] 43)
  have hz3 := HB3.size
  have hz3' : w2.heap.size + 1 ≤ ((w2.alloc (.cells #[] 43)).alloc (.cells #[] 43)).heap.size := by simp
  go_wp2_with (first | (go_at_call 50; refine (l1In_any _ _ _ _).mono ?_; rintro e w7 ⟨rfl, rfl⟩) | (at_builtin; refine wpList_appendF dyePartF rfl _ (.tmp 29) (.tmp 30) 24 (.agg #[.string ⟨#[]⟩, .int .i64 0]) 24 rfl Try.underlying24 info_DyePart rfl (by decide) (by decide) (w2.heap.size + 1) (.slice (some ⟨w2.heap.size + 1, 0, none⟩) 0 0) [] a b1 o1 a.length c B rfl rfl own9 hR3 (by simp; omega) hz3' ?_))
  intro A31 c31 w4 o31 hg4
  have HB4 := HB3.grown hg4 hz3 (fun q hq => by have := (own9.bd q hq).1; omega)
  have hR4' := hR3'.mark hg4 (fun q hq => by have := (own9.bd q hq).1; omega) (Nat.le_trans hB' hz3)
  have hR4 := hR3.mark hg4 (fun q hq => by have := (own9.bd q hq).1; omega) (Nat.le_trans hB hz3)
  replace own8 := own8.mark hg4 (fun q q' hq hq' => by cases hq; cases hq'; simp)
  have hz4 := HB4.size
  have hz4' := Nat.le_trans hz3' hg4.size
  clear own9 hg4 hR3 hR3' HB3 hz3 hz3'
  have hT12 : (a ++ b).length ≤ 12 := by rw [List.length_append]; omega
  go_wp2_with (at_builtin; refine wpList_appendF dyePartF rfl _ (.tmp 31) (.tmp 32) 24 (.agg #[.string ⟨#[]⟩, .int .i64 0]) 24 rfl Try.underlying24 info_DyePart rfl (by decide) (by decide) (w2.heap.size + 1) (.slice A31 a.length c31) a b b2 o2 b.length c' B' rfl rfl o31 hR4' (by omega) hz4' ?_)
  intro A9 c9 w5 o33 hg5
  have HB5 := HB4.grown hg5 hz4 (fun q hq => by have := (o31.bd q hq).1; omega)
  have hR5' := hR4'.mark hg5 (fun q hq => by have := (o31.bd q hq).1; omega) (Nat.le_trans hB' hz4)
  have hR5 := hR4.mark hg5 (fun q hq => by have := (o31.bd q hq).1; omega) (Nat.le_trans hB hz4)
  replace own8 := own8.mark hg5 (fun q q' hq hq' => by have h1 := (o31.bd q hq).1; have h2 : w2.heap.size = q' := Option.some.inj hq'; omega)
  clear o31 hg5 hR4 hR4' HB4 hz4 hz4' hR5 hR5' hR2 hR2' HB2 hz2
  rw [← List.length_append] at o33 ⊢
  obtain ⟨T, hT⟩ : ∃ T, a ++ b = T := ⟨_, rfl⟩
  rw [hT] at o33 hT12 ⊢
  have HT := Lib.hid hT
  have hR9 := o33.rd
  have hz5 := HB5.size
  obtain ⟨B4, hB4⟩ : ∃ q, w5.heap.size = q := ⟨_, rfl⟩
  rw [hB4] at hR9
  clear o33 hT ha hb hs
  go_wp2
  go_loopw [10, 8] (fun i s wr => ∃ (k : Nat) (M : List DyePartR) (g8 c8 : Nat), k ≤ T.length ∧ i = .int .i64 k ∧ s = .slice (some ⟨g8, 0, none⟩) M.length c8 ∧ OwnF dyePartF wr w.heap.size (.slice (some ⟨g8, 0, none⟩) M.length c8) M ∧ Hid (MixAt a b sh T k M) ∧ RdF dyePartF wr B4 A9 T.length c9 T ∧ Below w.heap.size w wr ∧ B4 ≤ wr.heap.size) (fun i _ _ => T.length - (intOf i).toNat)
  case atStart => exact ⟨0, [], _, 0, Nat.zero_le _, rfl, rfl, own8, mixAt_zero _ _ _ _, hR9, HB5, by omega⟩
  case round =>
    clear own8 hR9 HB5
    obtain ⟨i, M, g8, c8, hi, rfl, rfl, own8, HM, hR9, HB, hz⟩ := hrel
    have hsz := HB.size
    have hMl := HM.out.len
    by_cases hlt : i < T.length
    · obtain ⟨b9, o9, q0, rfl, hb9, hq0, HQ, d0, d1⟩ := DyePartR_at (F := dyePartF) rfl (fun _ => rfl) (fun _ => rfl) hR9 hlt
      obtain ⟨s, z0⟩ := q0
      have hs0 := hq0.1
      have HQ2 := HQ
      obtain ⟨⟨p0, p1⟩, ⟨p2, p3⟩, p4, p5⟩ := sumS_bd HAR.out HBR.out hsh.1 hsh.2 s
      have hki : (0 : Int) ≤ (i : Int) := by omega
      have hkn : (i : Int) < (T.length : Int) := by omega
      have hsum : sumS a b sh s = ofS a s * (100 - sh) + ofS b s * sh := rfl
      obtain ⟨u, hu⟩ : ∃ u, ofS a s * (100 - sh) = u := ⟨_, rfl⟩
      obtain ⟨v, hv⟩ : ∃ v, ofS b s * sh = v := ⟨_, rfl⟩
      rw [hu, hv] at hsum
      rw [hu] at p0 p1
      rw [hv] at p2 p3
      obtain ⟨N, hN⟩ : ∃ N, nS a b sh s = N := ⟨_, rfl⟩
      have hNu : N = (u + v + 99) / 100 := by rw [← hN]; unfold nS; rw [hsum]
      have HNS := Lib.hid hN
      have e1 : IntKind.i64.wrap (100 - sh) = 100 - sh := IntWalk.i64_in _ (by omega)
      have e2 : IntKind.i64.wrap (ofS a s * (100 - sh)) = u := by rw [hu]; exact IntWalk.i64_in _ (by omega)
      have e3 : IntKind.i64.wrap (ofS b s * sh) = v := by rw [hv]; exact IntWalk.i64_in _ (by omega)
      have e4 : IntKind.i64.wrap (u + v) = u + v := IntWalk.i64_in _ (by omega)
      have e5 : IntKind.i64.wrap (u + v + 99) = u + v + 99 := IntWalk.i64_in _ (by omega)
      have e6 : Int.tdiv (u + v + 99) 100 = N := by rw [hNu]; exact Int.tdiv_eq_ediv_of_nonneg (by omega)
      have e7 : IntKind.i64.wrap N = N := IntWalk.i64_in _ (by omega)
      have hnb : I64 N := ⟨by omega, by omega⟩
      have HOK : Hid (DyePartR.ok ⟨s, N⟩) := ⟨hs0, hnb⟩
      clear hnb
      have hRa := h.all HB hB
      have hRb := h'.all HB hB'
      go_wp2_with fail
      refine (l7Of_any _ _ c B a s _ hRa).mono ?_
      rintro e w4 ⟨rfl, rfl⟩
      go_wp2_with fail
      refine (l7Of_any _ _ c' B' b s _ hRb).mono ?_
      rintro e w4 ⟨rfl, rfl⟩
      clear hRa hRb
      by_cases hpos : 0 < u + v
      · have HS := Lib.hid (show 0 < sumS a b sh s by rw [hsum]; exact hpos)
        have hN0 : ¬ N = 0 := by omega
        have hN1 : 0 < N := by omega
        have hN2 : (N == 0) = false := by simpa using hN0
        clear hN hNu hu hv hsum
        go_wp2_with fail
        refine (l7Of_any _ _ c8 _ M s _ own8.rd).mono ?_
        rintro e w4 ⟨rfl, rfl⟩
        clear e1 e2 e3 e4 e5 e6 e7 d0 d1
        by_cases hof : 0 < ofS M s
        · have HMM := Lib.hid (mixAt_has HM.out HQ.out hof)
          go_wp2
          go_roundw
          case rel => exact ⟨i + 1, M, g8, c8, by omega, by go_num, rfl, own8, HMM, hR9, HB, hz⟩
          case measure => simp [intOf]; omega
        · have HO := Lib.hid hof
          have hof2 : ofS M s ≤ 0 := by omega
          obtain ⟨P, hP⟩ : ∃ P, wr.heap.size = P := ⟨_, rfl⟩
          have HNI := Lib.hid (not_in HM.out hof)
          clear hof
          go_wp2
          go_loopw [13] (fun t wy => ∃ k : Nat, k ≤ M.length ∧ t = .int .i64 k ∧ Hid (Behind M s k) ∧ wy = wr) (fun t _ => (intOf t).toNat)
          case atStart => exact ⟨M.length, Nat.le_refl _, rfl, behind_end _ _, rfl⟩
          case round =>
            obtain ⟨k, hk, rfl, HBH, rfl⟩ := hrel
            by_cases hk0 : 0 < k
            · obtain ⟨j, rfl⟩ : ∃ j, k = j + 1 := ⟨k - 1, by omega⟩
              obtain ⟨g9, f9, p, hA, _, _, HP, c0, c1⟩ := DyePartR_at (F := dyePartF) rfl (fun _ => rfl) (fun _ => rfl) own8.rd (show j < M.length by omega)
              cases hA
              have hne := Lib.hid (HNI.out p (List.mem_of_getElem? HP.out))
              have h2 : (p.f0.toList == s.toList) = false := by
                cases hq : (p.f0.toList == s.toList)
                · rfl
                · exact absurd (name_eq.1 hq) hne.out
              have ek : IntKind.i64.wrap (((j + 1 : Nat) : Int) - 1) = (j : Int) := by rw [IntWalk.i64_in _ (by omega)]; omega
              have ek2 : IntKind.i64.wrap (j : Int) = (j : Int) := IntWalk.i64_in _ (by omega)
              have hj0 : (0 : Int) ≤ (j : Int) := by omega
              have hj1 : (j : Int) < (M.length : Int) := by omega
              rw [Nat.zero_add] at c0
              cases hl : Op.bytesLess p.f0.toList s.toList
              case false =>
                have HBH2 := Lib.hid (behind_step HBH.out HP.out (less_tri _ _ hl h2))
                go_wp2
                go_roundw
                case rel => exact ⟨j, by omega, by go_num, HBH2, by first | rfl | trivial⟩
                case measure => simp [intOf]
              case true =>
                have HAH := Lib.hid (show ∀ x, 0 < j + 1 → M[j + 1 - 1]? = some x → Op.bytesLess x.f0.toList s.toList = true from fun x _ hx => by
                  rw [Nat.add_sub_cancel, HP.out] at hx
                  cases hx
                  exact hl)
                go_wp2
                clear ek ek2 hj0 hj1 hl h2 c0 c1 hne
                obtain ⟨k, hkk⟩ : ∃ k, j + 1 = k := ⟨_, rfl⟩
                rw [hkk] at HAH HBH hk ⊢
                have hkc : k ≤ c8 := Nat.le_trans hk own8.rd.cap
                have HX : Mx w B4 P (some ⟨b9, o9, none⟩) c9 T g8 c8 M wr := ⟨hP ▸ own8.rd, hR9, HB, by omega, by omega, by omega⟩
                refine wp_region_noPanic ?_
                refine wp_region_held_drew (S := fun _ => True) (by kernel_rfl) trivial (fun hHeld => ?_)
                replace HX := HX.drew
                obtain ⟨wd, hwd⟩ : ∃ v, wr.drew = v := ⟨_, rfl⟩
                rw [hwd] at HX ⊢
                clear hwd own8 hR9 HB
                refine wpAnyH_take (i := 1) (v := ?_) rfl (by kernel_rfl) (by kernel_rfl) (by kernel_rfl) (fun _ _ _ h => h) (Or.inl ⟨by rfl, ?_⟩) (by assumption) ?_
                rotate_left
                · intro w hSw; go_simp; (try with_reducible rfl)
                (try simp only [Act.put, List.getElem_toArray, List.getElem_cons_zero, List.getElem_cons_succ, List.setIfInBounds_toArray, List.set_cons_zero, List.set_cons_succ])
                refine wpAnyH_take (i := 2) (v := ?_) rfl (by kernel_rfl) (by kernel_rfl) (by kernel_rfl) (fun _ _ _ h => h) (Or.inl ⟨by rfl, ?_⟩) (by assumption) ?_
                rotate_left
                · intro w hSw; go_simp; (try with_reducible rfl)
                (try simp only [Act.put, List.getElem_toArray, List.getElem_cons_zero, List.getElem_cons_succ, List.setIfInBounds_toArray, List.set_cons_zero, List.set_cons_succ])
                refine wpAnyH_take (i := 3) (v := .slice (some ⟨g8, 0, none⟩) k c8) rfl (by kernel_rfl) (by kernel_rfl) (by kernel_rfl) (fun _ _ _ h => h) (Or.inl ⟨by rfl, ?_⟩) (by assumption) ?_
                · intro w hSw; go_simp; (try simp [go_sem]); (try rfl); (try (intro hx; exfalso; omega)); (try (split <;> simp))
                (try simp only [Act.put, List.getElem_toArray, List.getElem_cons_zero, List.getElem_cons_succ, List.setIfInBounds_toArray, List.set_cons_zero, List.set_cons_succ])
                refine wpAnyH_take (i := 5) (v := ?_) rfl (by kernel_rfl) (by kernel_rfl) (by kernel_rfl) (fun _ _ _ h => h) (Or.inl ⟨by rfl, ?_⟩) (by assumption) ?_
                rotate_left
                · intro w hSw; go_simp; (try with_reducible rfl)
                (try simp only [Act.put, List.getElem_toArray, List.getElem_cons_zero, List.getElem_cons_succ, List.setIfInBounds_toArray, List.set_cons_zero, List.set_cons_succ])
                refine wpAnyH_take (i := 6) (v := ?_) rfl (by kernel_rfl) (by kernel_rfl) (by kernel_rfl) (fun _ _ _ h => h) (Or.inl ⟨by rfl, ?_⟩) (by assumption) ?_
                rotate_left
                · intro w hSw; go_simp; (try with_reducible rfl)
                (try simp only [Act.put, List.getElem_toArray, List.getElem_cons_zero, List.getElem_cons_succ, List.setIfInBounds_toArray, List.set_cons_zero, List.set_cons_succ])
                refine wpAnyH_take (i := 7) (v := ?_) rfl (by kernel_rfl) (by kernel_rfl) (by kernel_rfl) (fun _ _ _ h => h) (Or.inl ⟨by rfl, ?_⟩) (by assumption) ?_
                rotate_left
                · intro w hSw; go_simp; (try with_reducible rfl)
                (try simp only [Act.put, List.getElem_toArray, List.getElem_cons_zero, List.getElem_cons_succ, List.setIfInBounds_toArray, List.set_cons_zero, List.set_cons_succ])
                refine wpAnyH_take (i := 10) (v := ?_) rfl (by kernel_rfl) (by kernel_rfl) (by kernel_rfl) (fun _ _ _ h => h) (Or.inl ⟨by rfl, ?_⟩) (by assumption) ?_
                rotate_left
                · intro w hSw; go_simp; (try with_reducible rfl)
                (try simp only [Act.put, List.getElem_toArray, List.getElem_cons_zero, List.getElem_cons_succ, List.setIfInBounds_toArray, List.set_cons_zero, List.set_cons_succ])
                refine wpAnyH_take (i := 11) (v := ?_) rfl (by kernel_rfl) (by kernel_rfl) (by kernel_rfl) (fun _ _ _ h => h) (Or.inl ⟨by rfl, ?_⟩) (by assumption) ?_
                rotate_left
                · intro w hSw; go_simp; (try with_reducible rfl)
                (try simp only [Act.put, List.getElem_toArray, List.getElem_cons_zero, List.getElem_cons_succ, List.setIfInBounds_toArray, List.set_cons_zero, List.set_cons_succ])
                refine wpAnyH_take (i := 12) (v := .slice (some ⟨g8, if c8 = k then 0 else 0 + k * 2, none⟩) (M.length - k) (c8 - k)) rfl (by kernel_rfl) (by kernel_rfl) (by kernel_rfl) (fun _ _ _ h => h) (Or.inl ⟨by rfl, ?_⟩) (by assumption) ?_
                · intro w hSw; go_simp; (try simp [go_sem]); (try rfl); (try (intro hx; exfalso; omega)); (try (split <;> simp))
                (try simp only [Act.put, List.getElem_toArray, List.getElem_cons_zero, List.getElem_cons_succ, List.setIfInBounds_toArray, List.set_cons_zero, List.set_cons_succ])
                refine wpAnyH_ready (rs := [0, 8]) (by kernel_rfl) (by simp) ?_
                refine AllReadyH.cons rfl (fun K hK => ?_) ?_
                · skip
                  go_simp
                  have oE : OwnF dyePartF (wd.alloc (.cells #[] 43)) P (.slice (some ⟨wd.heap.size, 0, none⟩) 0 0) [] := OwnF.empty dyePartF HX.sz
                  replace HX := HX.alloc (.cells #[] 43)
                  obtain ⟨e, hq⟩ : ∃ q, wd.heap.size = q := ⟨_, rfl⟩
                  rw [hq] at oE ⊢
                  obtain ⟨w1, hw⟩ : ∃ v, wd.alloc (.cells #[] 43) = v := ⟨_, rfl⟩
                  rw [hw] at HX oE ⊢
                  clear hw hq
                  refine hK.out _ _ trivial (fun hHeld => ?_)
                  clear hK K
                  (try simp only [Act.put, List.getElem_toArray, List.getElem_cons_zero, List.setIfInBounds_toArray, List.set_cons_zero, List.set_cons_succ])
                  refine wpAnyH_ready (rs := [4, 8]) (by kernel_rfl) (by simp) ?_
                  refine AllReadyH.cons rfl (fun K hK => ?_) ?_
                  · skip
                    refine step_appendF dyePartF rfl w1 (.tmp 83) (.tmp 86) 24 (.agg #[.string ⟨#[]⟩, .int .i64 0]) 24 rfl Try.underlying24 info_DyePart rfl (by decide) (by decide) P (.slice (some ⟨e, 0, none⟩) 0 0) ([] : List DyePartR) (M.take k) g8 0 k c8 P (by simp [Act.eval]) (by simp [Act.eval]) oE (HX.out.head hk) (by simp; omega) HX.sz ?_
                    intro Ao87 co87 w2 o87 hg
                    replace HX := HX.grown hg (fun q hq => (oE.bd q hq).1)
                    clear hg oE
                    obtain ⟨Xo87, hXo87⟩ : ∃ m, ([] : List DyePartR) ++ (M.take k) = m := ⟨_, rfl⟩
                    have hl : (([] : List DyePartR) : List DyePartR).length + (M.take k).length = Xo87.length := by rw [← hXo87, List.length_append]
                    rw [hXo87] at o87
                    rw [hl] at o87 ⊢
                    have no87 : Xo87.length ≤ 12 := by rw [← hl]; simp; omega
                    have HXo87 := Lib.hid hXo87
                    clear hl hXo87
                    refine hK.out _ _ trivial (fun hHeld => ?_)
                    clear hK K
                    (try simp only [Act.put, List.getElem_toArray, List.getElem_cons_zero, List.getElem_cons_succ, List.setIfInBounds_toArray, List.set_cons_zero, List.set_cons_succ])
                    refine wpAnyH_ready (rs := [8]) (by kernel_rfl) (by simp) ?_
                    refine AllReadyH.cons rfl (fun K hK => ?_) AllReadyH.nil
                    go_simp
                    have oL : OwnF dyePartF (w2.alloc (.cells #[.string s, .int .i64 N] 43)) P (.slice (some ⟨w2.heap.size, 0, none⟩) 1 1) [(⟨s, N⟩ : DyePartR)] := OwnF.made dyePartF #[.string s, .int .i64 N] [(⟨s, N⟩ : DyePartR)] HX.sz (by simp [maxLen]) rfl (by intro x hx; cases List.mem_singleton.1 hx; exact HOK.out)
                    replace o87 := o87.alloc (.cells #[.string s, .int .i64 N] 43)
                    replace HX := HX.alloc (.cells #[.string s, .int .i64 N] 43)
                    obtain ⟨l, hq⟩ : ∃ q, w2.heap.size = q := ⟨_, rfl⟩
                    rw [hq] at oL ⊢
                    obtain ⟨w3, hw⟩ : ∃ v, w2.alloc (.cells #[.string s, .int .i64 N] 43) = v := ⟨_, rfl⟩
                    rw [hw] at HX oL o87 ⊢
                    clear hw hq
                    refine hK.out _ _ trivial (fun hHeld => ?_)
                    clear hK K
                    (try simp only [Act.put, List.getElem_toArray, List.getElem_cons_zero, List.getElem_cons_succ, List.setIfInBounds_toArray, List.set_cons_zero, List.set_cons_succ])
                    refine wpAnyH_ready (rs := [9]) (by kernel_rfl) (by simp) ?_
                    refine AllReadyH.cons rfl (fun K hK => ?_) AllReadyH.nil
                    refine step_appendF dyePartF rfl w3 (.tmp 87) (.tmp 91) 24 (.agg #[.string ⟨#[]⟩, .int .i64 0]) 24 rfl Try.underlying24 info_DyePart rfl (by decide) (by decide) P (.slice Ao87 Xo87.length co87) Xo87 [(⟨s, N⟩ : DyePartR)] l 0 1 1 _ (by simp [Act.eval]) (by simp [Act.eval]) o87 oL.rd (by simp; omega) HX.sz ?_
                    intro Ao92 co92 wy o92 hg
                    replace HX := HX.grown hg (fun q hq => (o87.bd q hq).1)
                    clear hg o87
                    obtain ⟨Xo92, hXo92⟩ : ∃ m, Xo87 ++ [(⟨s, N⟩ : DyePartR)] = m := ⟨_, rfl⟩
                    have hl : (Xo87 : List DyePartR).length + [(⟨s, N⟩ : DyePartR)].length = Xo92.length := by rw [← hXo92, List.length_append]
                    rw [hXo92] at o92
                    rw [hl] at o92 ⊢
                    have no92 : Xo92.length ≤ 13 := by rw [← hl]; simp; omega
                    have HXo92 := Lib.hid hXo92
                    clear hl hXo92
                    refine hK.out _ _ trivial (fun hHeld => ?_)
                    clear hK K
                    (try simp only [Act.put, List.getElem_toArray, List.getElem_cons_zero, List.getElem_cons_succ, List.setIfInBounds_toArray, List.set_cons_zero, List.set_cons_succ])
                    clear oL
                    refine wpAnyH_ready (rs := [13]) (by kernel_rfl) (by simp) ?_
                    refine AllReadyH.cons rfl (fun K hK => ?_) AllReadyH.nil
                    refine step_appendF dyePartF rfl wy (.tmp 92) (.tmp 95) 24 (.agg #[.string ⟨#[]⟩, .int .i64 0]) 24 rfl Try.underlying24 info_DyePart rfl (by decide) (by decide) P (.slice Ao92 Xo92.length co92) Xo92 (M.drop k) g8 (if c8 = k then 0 else 0 + k * 2) (M.length - k) (c8 - k) P (by simp [Act.eval]) (by simp [Act.eval]) o92 (HX.out.cut hk) (by simp; omega) HX.sz ?_
                    intro Ao96 co96 wz o96 hg
                    replace HX := HX.grown hg (fun q hq => (o92.bd q hq).1)
                    clear hg o92
                    obtain ⟨Xo96, hXo96⟩ : ∃ m, Xo92 ++ (M.drop k) = m := ⟨_, rfl⟩
                    have hl : (Xo92 : List DyePartR).length + (M.drop k).length = Xo96.length := by rw [← hXo96, List.length_append]
                    rw [hXo96] at o96
                    rw [hl] at o96 ⊢
                    have no96 : Xo96.length ≤ 26 := by rw [← hl]; simp; omega
                    have HXo96 := Lib.hid hXo96
                    clear hl hXo96
                    refine hK.out _ _ trivial (fun hHeld => ?_)
                    clear hK K
                    (try simp only [Act.put, List.getElem_toArray, List.getElem_cons_zero, List.getElem_cons_succ, List.setIfInBounds_toArray, List.set_cons_zero, List.set_cons_succ])
                    refine wpAnyH_take (i := 14) (v := ?_) rfl (by kernel_rfl) (by kernel_rfl) (by kernel_rfl) (fun _ _ _ h => h) (Or.inl ⟨by rfl, ?_⟩) (by assumption) ?_
                    rotate_left
                    · intro w hSw; go_simp; (try with_reducible rfl)
                    (try simp only [Act.put, List.getElem_toArray, List.getElem_cons_zero, List.getElem_cons_succ, List.setIfInBounds_toArray, List.set_cons_zero, List.set_cons_succ])
                    refine wpAnyH_done (by kernel_rfl) ?_ _
                    refine NoPanic.normal ?_
                    obtain ⟨g2, rfl, _, _⟩ := o96.some_ (by rw [← HXo96.out, ← HXo92.out]; simp; omega)
                    have HMM : Hid (MixAt a b sh T (i + 1) Xo96) := Lib.hid (by rw [← HXo96.out, ← HXo92.out, ← HXo87.out, List.nil_append, ← HNS.out]; exact mixAt_ins HM.out HQ.out HS.out (Int.not_lt.2 HO.out) hk HBH.out HAH.out)
                    have h9 := HX.all
                    have hb := HX.bel
                    have hz := Nat.le_trans HX.b4 HX.sz
                    replace o96 := o96.mono HX.lo
                    clear HX hHeld
                    go_wp2
                    go_roundw
                    case rel => exact ⟨i + 1, Xo96, g2, _, by omega, by go_num, by first | rfl | trivial, o96, HMM, h9, hb, hz⟩
                    case measure => simp [intOf]; omega
                  refine AllReadyH.cons rfl (fun K hK => ?_) AllReadyH.nil
                  have oE0 := oE
                  go_simp
                  have oL : OwnF dyePartF (w1.alloc (.cells #[.string s, .int .i64 N] 43)) P (.slice (some ⟨w1.heap.size, 0, none⟩) 1 1) [(⟨s, N⟩ : DyePartR)] := OwnF.made dyePartF #[.string s, .int .i64 N] [(⟨s, N⟩ : DyePartR)] HX.sz (by simp [maxLen]) rfl (by intro x hx; cases List.mem_singleton.1 hx; exact HOK.out)
                  replace oE := oE.alloc (.cells #[.string s, .int .i64 N] 43)
                  have hne : w1.heap.size ≠ e := by have h1 := (oE0.bd e rfl).2; omega
                  replace HX := HX.alloc (.cells #[.string s, .int .i64 N] 43)
                  obtain ⟨l, hq⟩ : ∃ q, w1.heap.size = q := ⟨_, rfl⟩
                  rw [hq] at oL hne ⊢
                  obtain ⟨w2, hw⟩ : ∃ v, w1.alloc (.cells #[.string s, .int .i64 N] 43) = v := ⟨_, rfl⟩
                  rw [hw] at HX oL oE ⊢
                  clear hw hq
                  clear oE0
                  refine hK.out _ _ trivial (fun hHeld => ?_)
                  clear hK K
                  (try simp only [Act.put, List.getElem_toArray, List.getElem_cons_zero, List.getElem_cons_succ, List.setIfInBounds_toArray, List.set_cons_zero, List.set_cons_succ])
                  refine wpAnyH_ready (rs := [4]) (by kernel_rfl) (by simp) ?_
                  refine AllReadyH.cons rfl (fun K hK => ?_) AllReadyH.nil
                  refine step_appendF dyePartF rfl w2 (.tmp 83) (.tmp 86) 24 (.agg #[.string ⟨#[]⟩, .int .i64 0]) 24 rfl Try.underlying24 info_DyePart rfl (by decide) (by decide) P (.slice (some ⟨e, 0, none⟩) 0 0) ([] : List DyePartR) (M.take k) g8 0 k c8 P (by simp [Act.eval]) (by simp [Act.eval]) oE (HX.out.head hk) (by simp; omega) HX.sz ?_
                  intro Ao87 co87 w3 o87 hg
                  replace HX := HX.grown hg (fun q hq => (oE.bd q hq).1)
                  replace oL := oL.mark hg (fun q q' hq hq' => by cases hq; cases hq'; exact hne.symm)
                  clear hg oE
                  obtain ⟨Xo87, hXo87⟩ : ∃ m, ([] : List DyePartR) ++ (M.take k) = m := ⟨_, rfl⟩
                  have hl : (([] : List DyePartR) : List DyePartR).length + (M.take k).length = Xo87.length := by rw [← hXo87, List.length_append]
                  rw [hXo87] at o87
                  rw [hl] at o87 ⊢
                  have no87 : Xo87.length ≤ 12 := by rw [← hl]; simp; omega
                  have HXo87 := Lib.hid hXo87
                  clear hl hXo87
                  refine hK.out _ _ trivial (fun hHeld => ?_)
                  clear hK K
                  (try simp only [Act.put, List.getElem_toArray, List.getElem_cons_zero, List.getElem_cons_succ, List.setIfInBounds_toArray, List.set_cons_zero, List.set_cons_succ])
                  refine wpAnyH_ready (rs := [9]) (by kernel_rfl) (by simp) ?_
                  refine AllReadyH.cons rfl (fun K hK => ?_) AllReadyH.nil
                  refine step_appendF dyePartF rfl w3 (.tmp 87) (.tmp 91) 24 (.agg #[.string ⟨#[]⟩, .int .i64 0]) 24 rfl Try.underlying24 info_DyePart rfl (by decide) (by decide) P (.slice Ao87 Xo87.length co87) Xo87 [(⟨s, N⟩ : DyePartR)] l 0 1 1 _ (by simp [Act.eval]) (by simp [Act.eval]) o87 oL.rd (by simp; omega) HX.sz ?_
                  intro Ao92 co92 wy o92 hg
                  replace HX := HX.grown hg (fun q hq => (o87.bd q hq).1)
                  clear hg o87
                  obtain ⟨Xo92, hXo92⟩ : ∃ m, Xo87 ++ [(⟨s, N⟩ : DyePartR)] = m := ⟨_, rfl⟩
                  have hl : (Xo87 : List DyePartR).length + [(⟨s, N⟩ : DyePartR)].length = Xo92.length := by rw [← hXo92, List.length_append]
                  rw [hXo92] at o92
                  rw [hl] at o92 ⊢
                  have no92 : Xo92.length ≤ 13 := by rw [← hl]; simp; omega
                  have HXo92 := Lib.hid hXo92
                  clear hl hXo92
                  refine hK.out _ _ trivial (fun hHeld => ?_)
                  clear hK K
                  (try simp only [Act.put, List.getElem_toArray, List.getElem_cons_zero, List.getElem_cons_succ, List.setIfInBounds_toArray, List.set_cons_zero, List.set_cons_succ])
                  clear oL
                  refine wpAnyH_ready (rs := [13]) (by kernel_rfl) (by simp) ?_
                  refine AllReadyH.cons rfl (fun K hK => ?_) AllReadyH.nil
                  refine step_appendF dyePartF rfl wy (.tmp 92) (.tmp 95) 24 (.agg #[.string ⟨#[]⟩, .int .i64 0]) 24 rfl Try.underlying24 info_DyePart rfl (by decide) (by decide) P (.slice Ao92 Xo92.length co92) Xo92 (M.drop k) g8 (if c8 = k then 0 else 0 + k * 2) (M.length - k) (c8 - k) P (by simp [Act.eval]) (by simp [Act.eval]) o92 (HX.out.cut hk) (by simp; omega) HX.sz ?_
                  intro Ao96 co96 wz o96 hg
                  replace HX := HX.grown hg (fun q hq => (o92.bd q hq).1)
                  clear hg o92
                  obtain ⟨Xo96, hXo96⟩ : ∃ m, Xo92 ++ (M.drop k) = m := ⟨_, rfl⟩
                  have hl : (Xo92 : List DyePartR).length + (M.drop k).length = Xo96.length := by rw [← hXo96, List.length_append]
                  rw [hXo96] at o96
                  rw [hl] at o96 ⊢
                  have no96 : Xo96.length ≤ 26 := by rw [← hl]; simp; omega
                  have HXo96 := Lib.hid hXo96
                  clear hl hXo96
                  refine hK.out _ _ trivial (fun hHeld => ?_)
                  clear hK K
                  (try simp only [Act.put, List.getElem_toArray, List.getElem_cons_zero, List.getElem_cons_succ, List.setIfInBounds_toArray, List.set_cons_zero, List.set_cons_succ])
                  refine wpAnyH_take (i := 14) (v := ?_) rfl (by kernel_rfl) (by kernel_rfl) (by kernel_rfl) (fun _ _ _ h => h) (Or.inl ⟨by rfl, ?_⟩) (by assumption) ?_
                  rotate_left
                  · intro w hSw; go_simp; (try with_reducible rfl)
                  (try simp only [Act.put, List.getElem_toArray, List.getElem_cons_zero, List.getElem_cons_succ, List.setIfInBounds_toArray, List.set_cons_zero, List.set_cons_succ])
                  refine wpAnyH_done (by kernel_rfl) ?_ _
                  refine NoPanic.normal ?_
                  obtain ⟨g2, rfl, _, _⟩ := o96.some_ (by rw [← HXo96.out, ← HXo92.out]; simp; omega)
                  have HMM : Hid (MixAt a b sh T (i + 1) Xo96) := Lib.hid (by rw [← HXo96.out, ← HXo92.out, ← HXo87.out, List.nil_append, ← HNS.out]; exact mixAt_ins HM.out HQ.out HS.out (Int.not_lt.2 HO.out) hk HBH.out HAH.out)
                  have h9 := HX.all
                  have hb := HX.bel
                  have hz := Nat.le_trans HX.b4 HX.sz
                  replace o96 := o96.mono HX.lo
                  clear HX hHeld
                  go_wp2
                  go_roundw
                  case rel => exact ⟨i + 1, Xo96, g2, _, by omega, by go_num, by first | rfl | trivial, o96, HMM, h9, hb, hz⟩
                  case measure => simp [intOf]; omega
                refine AllReadyH.cons rfl (fun K hK => ?_) AllReadyH.nil
                go_simp
                have oL : OwnF dyePartF (wd.alloc (.cells #[.string s, .int .i64 N] 43)) P (.slice (some ⟨wd.heap.size, 0, none⟩) 1 1) [(⟨s, N⟩ : DyePartR)] := OwnF.made dyePartF #[.string s, .int .i64 N] [(⟨s, N⟩ : DyePartR)] HX.sz (by simp [maxLen]) rfl (by intro x hx; cases List.mem_singleton.1 hx; exact HOK.out)
                replace HX := HX.alloc (.cells #[.string s, .int .i64 N] 43)
                obtain ⟨l, hq⟩ : ∃ q, wd.heap.size = q := ⟨_, rfl⟩
                rw [hq] at oL ⊢
                obtain ⟨w1, hw⟩ : ∃ v, wd.alloc (.cells #[.string s, .int .i64 N] 43) = v := ⟨_, rfl⟩
                rw [hw] at HX oL ⊢
                clear hw hq
                refine hK.out _ _ trivial (fun hHeld => ?_)
                clear hK K
                (try simp only [Act.put, List.getElem_toArray, List.getElem_cons_zero, List.getElem_cons_succ, List.setIfInBounds_toArray, List.set_cons_zero, List.set_cons_succ])
                refine wpAnyH_ready (rs := [0]) (by kernel_rfl) (by simp) ?_
                refine AllReadyH.cons rfl (fun K hK => ?_) AllReadyH.nil
                have oL0 := oL
                go_simp
                have oE : OwnF dyePartF (w1.alloc (.cells #[] 43)) P (.slice (some ⟨w1.heap.size, 0, none⟩) 0 0) [] := OwnF.empty dyePartF HX.sz
                replace oL := oL.alloc (.cells #[] 43)
                have hne : w1.heap.size ≠ l := by have h1 := (oL0.bd l rfl).2; omega
                replace HX := HX.alloc (.cells #[] 43)
                obtain ⟨e, hq⟩ : ∃ q, w1.heap.size = q := ⟨_, rfl⟩
                rw [hq] at oE hne ⊢
                obtain ⟨w2, hw⟩ : ∃ v, w1.alloc (.cells #[] 43) = v := ⟨_, rfl⟩
                rw [hw] at HX oE oL ⊢
                clear hw hq
                clear oL0
                refine hK.out _ _ trivial (fun hHeld => ?_)
                clear hK K
                (try simp only [Act.put, List.getElem_toArray, List.getElem_cons_zero, List.setIfInBounds_toArray, List.set_cons_zero, List.set_cons_succ])
                refine wpAnyH_ready (rs := [4]) (by kernel_rfl) (by simp) ?_
                refine AllReadyH.cons rfl (fun K hK => ?_) AllReadyH.nil
                refine step_appendF dyePartF rfl w2 (.tmp 83) (.tmp 86) 24 (.agg #[.string ⟨#[]⟩, .int .i64 0]) 24 rfl Try.underlying24 info_DyePart rfl (by decide) (by decide) P (.slice (some ⟨e, 0, none⟩) 0 0) ([] : List DyePartR) (M.take k) g8 0 k c8 P (by simp [Act.eval]) (by simp [Act.eval]) oE (HX.out.head hk) (by simp; omega) HX.sz ?_
                intro Ao87 co87 w3 o87 hg
                replace HX := HX.grown hg (fun q hq => (oE.bd q hq).1)
                replace oL := oL.mark hg (fun q q' hq hq' => by cases hq; cases hq'; exact hne)
                clear hg oE
                obtain ⟨Xo87, hXo87⟩ : ∃ m, ([] : List DyePartR) ++ (M.take k) = m := ⟨_, rfl⟩
                have hl : (([] : List DyePartR) : List DyePartR).length + (M.take k).length = Xo87.length := by rw [← hXo87, List.length_append]
                rw [hXo87] at o87
                rw [hl] at o87 ⊢
                have no87 : Xo87.length ≤ 12 := by rw [← hl]; simp; omega
                have HXo87 := Lib.hid hXo87
                clear hl hXo87
                refine hK.out _ _ trivial (fun hHeld => ?_)
                clear hK K
                (try simp only [Act.put, List.getElem_toArray, List.getElem_cons_zero, List.getElem_cons_succ, List.setIfInBounds_toArray, List.set_cons_zero, List.set_cons_succ])
                refine wpAnyH_ready (rs := [9]) (by kernel_rfl) (by simp) ?_
                refine AllReadyH.cons rfl (fun K hK => ?_) AllReadyH.nil
                refine step_appendF dyePartF rfl w3 (.tmp 87) (.tmp 91) 24 (.agg #[.string ⟨#[]⟩, .int .i64 0]) 24 rfl Try.underlying24 info_DyePart rfl (by decide) (by decide) P (.slice Ao87 Xo87.length co87) Xo87 [(⟨s, N⟩ : DyePartR)] l 0 1 1 _ (by simp [Act.eval]) (by simp [Act.eval]) o87 oL.rd (by simp; omega) HX.sz ?_
                intro Ao92 co92 wy o92 hg
                replace HX := HX.grown hg (fun q hq => (o87.bd q hq).1)
                clear hg o87
                obtain ⟨Xo92, hXo92⟩ : ∃ m, Xo87 ++ [(⟨s, N⟩ : DyePartR)] = m := ⟨_, rfl⟩
                have hl : (Xo87 : List DyePartR).length + [(⟨s, N⟩ : DyePartR)].length = Xo92.length := by rw [← hXo92, List.length_append]
                rw [hXo92] at o92
                rw [hl] at o92 ⊢
                have no92 : Xo92.length ≤ 13 := by rw [← hl]; simp; omega
                have HXo92 := Lib.hid hXo92
                clear hl hXo92
                refine hK.out _ _ trivial (fun hHeld => ?_)
                clear hK K
                (try simp only [Act.put, List.getElem_toArray, List.getElem_cons_zero, List.getElem_cons_succ, List.setIfInBounds_toArray, List.set_cons_zero, List.set_cons_succ])
                clear oL
                refine wpAnyH_ready (rs := [13]) (by kernel_rfl) (by simp) ?_
                refine AllReadyH.cons rfl (fun K hK => ?_) AllReadyH.nil
                refine step_appendF dyePartF rfl wy (.tmp 92) (.tmp 95) 24 (.agg #[.string ⟨#[]⟩, .int .i64 0]) 24 rfl Try.underlying24 info_DyePart rfl (by decide) (by decide) P (.slice Ao92 Xo92.length co92) Xo92 (M.drop k) g8 (if c8 = k then 0 else 0 + k * 2) (M.length - k) (c8 - k) P (by simp [Act.eval]) (by simp [Act.eval]) o92 (HX.out.cut hk) (by simp; omega) HX.sz ?_
                intro Ao96 co96 wz o96 hg
                replace HX := HX.grown hg (fun q hq => (o92.bd q hq).1)
                clear hg o92
                obtain ⟨Xo96, hXo96⟩ : ∃ m, Xo92 ++ (M.drop k) = m := ⟨_, rfl⟩
                have hl : (Xo92 : List DyePartR).length + (M.drop k).length = Xo96.length := by rw [← hXo96, List.length_append]
                rw [hXo96] at o96
                rw [hl] at o96 ⊢
                have no96 : Xo96.length ≤ 26 := by rw [← hl]; simp; omega
                have HXo96 := Lib.hid hXo96
                clear hl hXo96
                refine hK.out _ _ trivial (fun hHeld => ?_)
                clear hK K
                (try simp only [Act.put, List.getElem_toArray, List.getElem_cons_zero, List.getElem_cons_succ, List.setIfInBounds_toArray, List.set_cons_zero, List.set_cons_succ])
                refine wpAnyH_take (i := 14) (v := ?_) rfl (by kernel_rfl) (by kernel_rfl) (by kernel_rfl) (fun _ _ _ h => h) (Or.inl ⟨by rfl, ?_⟩) (by assumption) ?_
                rotate_left
                · intro w hSw; go_simp; (try with_reducible rfl)
                (try simp only [Act.put, List.getElem_toArray, List.getElem_cons_zero, List.getElem_cons_succ, List.setIfInBounds_toArray, List.set_cons_zero, List.set_cons_succ])
                refine wpAnyH_done (by kernel_rfl) ?_ _
                refine NoPanic.normal ?_
                obtain ⟨g2, rfl, _, _⟩ := o96.some_ (by rw [← HXo96.out, ← HXo92.out]; simp; omega)
                have HMM : Hid (MixAt a b sh T (i + 1) Xo96) := Lib.hid (by rw [← HXo96.out, ← HXo92.out, ← HXo87.out, List.nil_append, ← HNS.out]; exact mixAt_ins HM.out HQ.out HS.out (Int.not_lt.2 HO.out) hk HBH.out HAH.out)
                have h9 := HX.all
                have hb := HX.bel
                have hz := Nat.le_trans HX.b4 HX.sz
                replace o96 := o96.mono HX.lo
                clear HX hHeld
                go_wp2
                go_roundw
                case rel => exact ⟨i + 1, Xo96, g2, _, by omega, by go_num, by first | rfl | trivial, o96, HMM, h9, hb, hz⟩
                case measure => simp [intOf]; omega
            · have HAH := Lib.hid (show ∀ x, 0 < k → M[k - 1]? = some x → Op.bytesLess x.f0.toList s.toList = true from fun x h0 _ => by omega)
              have hkz : (k : Int) ≤ 0 := by omega
              have HK0 := Lib.hid hk0
              clear hk0
              go_wp2
              clear hkz
              have hkc : k ≤ c8 := Nat.le_trans hk own8.rd.cap
              have HX : Mx w B4 P (some ⟨b9, o9, none⟩) c9 T g8 c8 M wr := ⟨hP ▸ own8.rd, hR9, HB, by omega, by omega, by omega⟩
              refine wp_region_noPanic ?_
              refine wp_region_held_drew (S := fun _ => True) (by kernel_rfl) trivial (fun hHeld => ?_)
              replace HX := HX.drew
              obtain ⟨wd, hwd⟩ : ∃ v, wr.drew = v := ⟨_, rfl⟩
              rw [hwd] at HX ⊢
              clear hwd own8 hR9 HB
              refine wpAnyH_take (i := 1) (v := ?_) rfl (by kernel_rfl) (by kernel_rfl) (by kernel_rfl) (fun _ _ _ h => h) (Or.inl ⟨by rfl, ?_⟩) (by assumption) ?_
              rotate_left
              · intro w hSw; go_simp; (try with_reducible rfl)
              (try simp only [Act.put, List.getElem_toArray, List.getElem_cons_zero, List.getElem_cons_succ, List.setIfInBounds_toArray, List.set_cons_zero, List.set_cons_succ])
              refine wpAnyH_take (i := 2) (v := ?_) rfl (by kernel_rfl) (by kernel_rfl) (by kernel_rfl) (fun _ _ _ h => h) (Or.inl ⟨by rfl, ?_⟩) (by assumption) ?_
              rotate_left
              · intro w hSw; go_simp; (try with_reducible rfl)
              (try simp only [Act.put, List.getElem_toArray, List.getElem_cons_zero, List.getElem_cons_succ, List.setIfInBounds_toArray, List.set_cons_zero, List.set_cons_succ])
              refine wpAnyH_take (i := 3) (v := .slice (some ⟨g8, 0, none⟩) k c8) rfl (by kernel_rfl) (by kernel_rfl) (by kernel_rfl) (fun _ _ _ h => h) (Or.inl ⟨by rfl, ?_⟩) (by assumption) ?_
              · intro w hSw; go_simp; (try simp [go_sem]); (try rfl); (try (intro hx; exfalso; omega)); (try (split <;> simp))
              (try simp only [Act.put, List.getElem_toArray, List.getElem_cons_zero, List.getElem_cons_succ, List.setIfInBounds_toArray, List.set_cons_zero, List.set_cons_succ])
              refine wpAnyH_take (i := 5) (v := ?_) rfl (by kernel_rfl) (by kernel_rfl) (by kernel_rfl) (fun _ _ _ h => h) (Or.inl ⟨by rfl, ?_⟩) (by assumption) ?_
              rotate_left
              · intro w hSw; go_simp; (try with_reducible rfl)
              (try simp only [Act.put, List.getElem_toArray, List.getElem_cons_zero, List.getElem_cons_succ, List.setIfInBounds_toArray, List.set_cons_zero, List.set_cons_succ])
              refine wpAnyH_take (i := 6) (v := ?_) rfl (by kernel_rfl) (by kernel_rfl) (by kernel_rfl) (fun _ _ _ h => h) (Or.inl ⟨by rfl, ?_⟩) (by assumption) ?_
              rotate_left
              · intro w hSw; go_simp; (try with_reducible rfl)
              (try simp only [Act.put, List.getElem_toArray, List.getElem_cons_zero, List.getElem_cons_succ, List.setIfInBounds_toArray, List.set_cons_zero, List.set_cons_succ])
              refine wpAnyH_take (i := 7) (v := ?_) rfl (by kernel_rfl) (by kernel_rfl) (by kernel_rfl) (fun _ _ _ h => h) (Or.inl ⟨by rfl, ?_⟩) (by assumption) ?_
              rotate_left
              · intro w hSw; go_simp; (try with_reducible rfl)
              (try simp only [Act.put, List.getElem_toArray, List.getElem_cons_zero, List.getElem_cons_succ, List.setIfInBounds_toArray, List.set_cons_zero, List.set_cons_succ])
              refine wpAnyH_take (i := 10) (v := ?_) rfl (by kernel_rfl) (by kernel_rfl) (by kernel_rfl) (fun _ _ _ h => h) (Or.inl ⟨by rfl, ?_⟩) (by assumption) ?_
              rotate_left
              · intro w hSw; go_simp; (try with_reducible rfl)
              (try simp only [Act.put, List.getElem_toArray, List.getElem_cons_zero, List.getElem_cons_succ, List.setIfInBounds_toArray, List.set_cons_zero, List.set_cons_succ])
              refine wpAnyH_take (i := 11) (v := ?_) rfl (by kernel_rfl) (by kernel_rfl) (by kernel_rfl) (fun _ _ _ h => h) (Or.inl ⟨by rfl, ?_⟩) (by assumption) ?_
              rotate_left
              · intro w hSw; go_simp; (try with_reducible rfl)
              (try simp only [Act.put, List.getElem_toArray, List.getElem_cons_zero, List.getElem_cons_succ, List.setIfInBounds_toArray, List.set_cons_zero, List.set_cons_succ])
              refine wpAnyH_take (i := 12) (v := .slice (some ⟨g8, if c8 = k then 0 else 0 + k * 2, none⟩) (M.length - k) (c8 - k)) rfl (by kernel_rfl) (by kernel_rfl) (by kernel_rfl) (fun _ _ _ h => h) (Or.inl ⟨by rfl, ?_⟩) (by assumption) ?_
              · intro w hSw; go_simp; (try simp [go_sem]); (try rfl); (try (intro hx; exfalso; omega)); (try (split <;> simp))
              (try simp only [Act.put, List.getElem_toArray, List.getElem_cons_zero, List.getElem_cons_succ, List.setIfInBounds_toArray, List.set_cons_zero, List.set_cons_succ])
              refine wpAnyH_ready (rs := [0, 8]) (by kernel_rfl) (by simp) ?_
              refine AllReadyH.cons rfl (fun K hK => ?_) ?_
              · skip
                go_simp
                have oE : OwnF dyePartF (wd.alloc (.cells #[] 43)) P (.slice (some ⟨wd.heap.size, 0, none⟩) 0 0) [] := OwnF.empty dyePartF HX.sz
                replace HX := HX.alloc (.cells #[] 43)
                obtain ⟨e, hq⟩ : ∃ q, wd.heap.size = q := ⟨_, rfl⟩
                rw [hq] at oE ⊢
                obtain ⟨w1, hw⟩ : ∃ v, wd.alloc (.cells #[] 43) = v := ⟨_, rfl⟩
                rw [hw] at HX oE ⊢
                clear hw hq
                refine hK.out _ _ trivial (fun hHeld => ?_)
                clear hK K
                (try simp only [Act.put, List.getElem_toArray, List.getElem_cons_zero, List.setIfInBounds_toArray, List.set_cons_zero, List.set_cons_succ])
                refine wpAnyH_ready (rs := [4, 8]) (by kernel_rfl) (by simp) ?_
                refine AllReadyH.cons rfl (fun K hK => ?_) ?_
                · skip
                  refine step_appendF dyePartF rfl w1 (.tmp 83) (.tmp 86) 24 (.agg #[.string ⟨#[]⟩, .int .i64 0]) 24 rfl Try.underlying24 info_DyePart rfl (by decide) (by decide) P (.slice (some ⟨e, 0, none⟩) 0 0) ([] : List DyePartR) (M.take k) g8 0 k c8 P (by simp [Act.eval]) (by simp [Act.eval]) oE (HX.out.head hk) (by simp; omega) HX.sz ?_
                  intro Ao87 co87 w2 o87 hg
                  replace HX := HX.grown hg (fun q hq => (oE.bd q hq).1)
                  clear hg oE
                  obtain ⟨Xo87, hXo87⟩ : ∃ m, ([] : List DyePartR) ++ (M.take k) = m := ⟨_, rfl⟩
                  have hl : (([] : List DyePartR) : List DyePartR).length + (M.take k).length = Xo87.length := by rw [← hXo87, List.length_append]
                  rw [hXo87] at o87
                  rw [hl] at o87 ⊢
                  have no87 : Xo87.length ≤ 12 := by rw [← hl]; simp; omega
                  have HXo87 := Lib.hid hXo87
                  clear hl hXo87
                  refine hK.out _ _ trivial (fun hHeld => ?_)
                  clear hK K
                  (try simp only [Act.put, List.getElem_toArray, List.getElem_cons_zero, List.getElem_cons_succ, List.setIfInBounds_toArray, List.set_cons_zero, List.set_cons_succ])
                  refine wpAnyH_ready (rs := [8]) (by kernel_rfl) (by simp) ?_
                  refine AllReadyH.cons rfl (fun K hK => ?_) AllReadyH.nil
                  go_simp
                  have oL : OwnF dyePartF (w2.alloc (.cells #[.string s, .int .i64 N] 43)) P (.slice (some ⟨w2.heap.size, 0, none⟩) 1 1) [(⟨s, N⟩ : DyePartR)] := OwnF.made dyePartF #[.string s, .int .i64 N] [(⟨s, N⟩ : DyePartR)] HX.sz (by simp [maxLen]) rfl (by intro x hx; cases List.mem_singleton.1 hx; exact HOK.out)
                  replace o87 := o87.alloc (.cells #[.string s, .int .i64 N] 43)
                  replace HX := HX.alloc (.cells #[.string s, .int .i64 N] 43)
                  obtain ⟨l, hq⟩ : ∃ q, w2.heap.size = q := ⟨_, rfl⟩
                  rw [hq] at oL ⊢
                  obtain ⟨w3, hw⟩ : ∃ v, w2.alloc (.cells #[.string s, .int .i64 N] 43) = v := ⟨_, rfl⟩
                  rw [hw] at HX oL o87 ⊢
                  clear hw hq
                  refine hK.out _ _ trivial (fun hHeld => ?_)
                  clear hK K
                  (try simp only [Act.put, List.getElem_toArray, List.getElem_cons_zero, List.getElem_cons_succ, List.setIfInBounds_toArray, List.set_cons_zero, List.set_cons_succ])
                  refine wpAnyH_ready (rs := [9]) (by kernel_rfl) (by simp) ?_
                  refine AllReadyH.cons rfl (fun K hK => ?_) AllReadyH.nil
                  refine step_appendF dyePartF rfl w3 (.tmp 87) (.tmp 91) 24 (.agg #[.string ⟨#[]⟩, .int .i64 0]) 24 rfl Try.underlying24 info_DyePart rfl (by decide) (by decide) P (.slice Ao87 Xo87.length co87) Xo87 [(⟨s, N⟩ : DyePartR)] l 0 1 1 _ (by simp [Act.eval]) (by simp [Act.eval]) o87 oL.rd (by simp; omega) HX.sz ?_
                  intro Ao92 co92 wy o92 hg
                  replace HX := HX.grown hg (fun q hq => (o87.bd q hq).1)
                  clear hg o87
                  obtain ⟨Xo92, hXo92⟩ : ∃ m, Xo87 ++ [(⟨s, N⟩ : DyePartR)] = m := ⟨_, rfl⟩
                  have hl : (Xo87 : List DyePartR).length + [(⟨s, N⟩ : DyePartR)].length = Xo92.length := by rw [← hXo92, List.length_append]
                  rw [hXo92] at o92
                  rw [hl] at o92 ⊢
                  have no92 : Xo92.length ≤ 13 := by rw [← hl]; simp; omega
                  have HXo92 := Lib.hid hXo92
                  clear hl hXo92
                  refine hK.out _ _ trivial (fun hHeld => ?_)
                  clear hK K
                  (try simp only [Act.put, List.getElem_toArray, List.getElem_cons_zero, List.getElem_cons_succ, List.setIfInBounds_toArray, List.set_cons_zero, List.set_cons_succ])
                  clear oL
                  refine wpAnyH_ready (rs := [13]) (by kernel_rfl) (by simp) ?_
                  refine AllReadyH.cons rfl (fun K hK => ?_) AllReadyH.nil
                  refine step_appendF dyePartF rfl wy (.tmp 92) (.tmp 95) 24 (.agg #[.string ⟨#[]⟩, .int .i64 0]) 24 rfl Try.underlying24 info_DyePart rfl (by decide) (by decide) P (.slice Ao92 Xo92.length co92) Xo92 (M.drop k) g8 (if c8 = k then 0 else 0 + k * 2) (M.length - k) (c8 - k) P (by simp [Act.eval]) (by simp [Act.eval]) o92 (HX.out.cut hk) (by simp; omega) HX.sz ?_
                  intro Ao96 co96 wz o96 hg
                  replace HX := HX.grown hg (fun q hq => (o92.bd q hq).1)
                  clear hg o92
                  obtain ⟨Xo96, hXo96⟩ : ∃ m, Xo92 ++ (M.drop k) = m := ⟨_, rfl⟩
                  have hl : (Xo92 : List DyePartR).length + (M.drop k).length = Xo96.length := by rw [← hXo96, List.length_append]
                  rw [hXo96] at o96
                  rw [hl] at o96 ⊢
                  have no96 : Xo96.length ≤ 26 := by rw [← hl]; simp; omega
                  have HXo96 := Lib.hid hXo96
                  clear hl hXo96
                  refine hK.out _ _ trivial (fun hHeld => ?_)
                  clear hK K
                  (try simp only [Act.put, List.getElem_toArray, List.getElem_cons_zero, List.getElem_cons_succ, List.setIfInBounds_toArray, List.set_cons_zero, List.set_cons_succ])
                  refine wpAnyH_take (i := 14) (v := ?_) rfl (by kernel_rfl) (by kernel_rfl) (by kernel_rfl) (fun _ _ _ h => h) (Or.inl ⟨by rfl, ?_⟩) (by assumption) ?_
                  rotate_left
                  · intro w hSw; go_simp; (try with_reducible rfl)
                  (try simp only [Act.put, List.getElem_toArray, List.getElem_cons_zero, List.getElem_cons_succ, List.setIfInBounds_toArray, List.set_cons_zero, List.set_cons_succ])
                  refine wpAnyH_done (by kernel_rfl) ?_ _
                  refine NoPanic.normal ?_
                  obtain ⟨g2, rfl, _, _⟩ := o96.some_ (by rw [← HXo96.out, ← HXo92.out]; simp; omega)
                  have HMM : Hid (MixAt a b sh T (i + 1) Xo96) := Lib.hid (by rw [← HXo96.out, ← HXo92.out, ← HXo87.out, List.nil_append, ← HNS.out]; exact mixAt_ins HM.out HQ.out HS.out (Int.not_lt.2 HO.out) hk HBH.out HAH.out)
                  have h9 := HX.all
                  have hb := HX.bel
                  have hz := Nat.le_trans HX.b4 HX.sz
                  replace o96 := o96.mono HX.lo
                  clear HX hHeld
                  go_wp2
                  go_roundw
                  case rel => exact ⟨i + 1, Xo96, g2, _, by omega, by go_num, by first | rfl | trivial, o96, HMM, h9, hb, hz⟩
                  case measure => simp [intOf]; omega
                refine AllReadyH.cons rfl (fun K hK => ?_) AllReadyH.nil
                have oE0 := oE
                go_simp
                have oL : OwnF dyePartF (w1.alloc (.cells #[.string s, .int .i64 N] 43)) P (.slice (some ⟨w1.heap.size, 0, none⟩) 1 1) [(⟨s, N⟩ : DyePartR)] := OwnF.made dyePartF #[.string s, .int .i64 N] [(⟨s, N⟩ : DyePartR)] HX.sz (by simp [maxLen]) rfl (by intro x hx; cases List.mem_singleton.1 hx; exact HOK.out)
                replace oE := oE.alloc (.cells #[.string s, .int .i64 N] 43)
                have hne : w1.heap.size ≠ e := by have h1 := (oE0.bd e rfl).2; omega
                replace HX := HX.alloc (.cells #[.string s, .int .i64 N] 43)
                obtain ⟨l, hq⟩ : ∃ q, w1.heap.size = q := ⟨_, rfl⟩
                rw [hq] at oL hne ⊢
                obtain ⟨w2, hw⟩ : ∃ v, w1.alloc (.cells #[.string s, .int .i64 N] 43) = v := ⟨_, rfl⟩
                rw [hw] at HX oL oE ⊢
                clear hw hq
                clear oE0
                refine hK.out _ _ trivial (fun hHeld => ?_)
                clear hK K
                (try simp only [Act.put, List.getElem_toArray, List.getElem_cons_zero, List.getElem_cons_succ, List.setIfInBounds_toArray, List.set_cons_zero, List.set_cons_succ])
                refine wpAnyH_ready (rs := [4]) (by kernel_rfl) (by simp) ?_
                refine AllReadyH.cons rfl (fun K hK => ?_) AllReadyH.nil
                refine step_appendF dyePartF rfl w2 (.tmp 83) (.tmp 86) 24 (.agg #[.string ⟨#[]⟩, .int .i64 0]) 24 rfl Try.underlying24 info_DyePart rfl (by decide) (by decide) P (.slice (some ⟨e, 0, none⟩) 0 0) ([] : List DyePartR) (M.take k) g8 0 k c8 P (by simp [Act.eval]) (by simp [Act.eval]) oE (HX.out.head hk) (by simp; omega) HX.sz ?_
                intro Ao87 co87 w3 o87 hg
                replace HX := HX.grown hg (fun q hq => (oE.bd q hq).1)
                replace oL := oL.mark hg (fun q q' hq hq' => by cases hq; cases hq'; exact hne.symm)
                clear hg oE
                obtain ⟨Xo87, hXo87⟩ : ∃ m, ([] : List DyePartR) ++ (M.take k) = m := ⟨_, rfl⟩
                have hl : (([] : List DyePartR) : List DyePartR).length + (M.take k).length = Xo87.length := by rw [← hXo87, List.length_append]
                rw [hXo87] at o87
                rw [hl] at o87 ⊢
                have no87 : Xo87.length ≤ 12 := by rw [← hl]; simp; omega
                have HXo87 := Lib.hid hXo87
                clear hl hXo87
                refine hK.out _ _ trivial (fun hHeld => ?_)
                clear hK K
                (try simp only [Act.put, List.getElem_toArray, List.getElem_cons_zero, List.getElem_cons_succ, List.setIfInBounds_toArray, List.set_cons_zero, List.set_cons_succ])
                refine wpAnyH_ready (rs := [9]) (by kernel_rfl) (by simp) ?_
                refine AllReadyH.cons rfl (fun K hK => ?_) AllReadyH.nil
                refine step_appendF dyePartF rfl w3 (.tmp 87) (.tmp 91) 24 (.agg #[.string ⟨#[]⟩, .int .i64 0]) 24 rfl Try.underlying24 info_DyePart rfl (by decide) (by decide) P (.slice Ao87 Xo87.length co87) Xo87 [(⟨s, N⟩ : DyePartR)] l 0 1 1 _ (by simp [Act.eval]) (by simp [Act.eval]) o87 oL.rd (by simp; omega) HX.sz ?_
                intro Ao92 co92 wy o92 hg
                replace HX := HX.grown hg (fun q hq => (o87.bd q hq).1)
                clear hg o87
                obtain ⟨Xo92, hXo92⟩ : ∃ m, Xo87 ++ [(⟨s, N⟩ : DyePartR)] = m := ⟨_, rfl⟩
                have hl : (Xo87 : List DyePartR).length + [(⟨s, N⟩ : DyePartR)].length = Xo92.length := by rw [← hXo92, List.length_append]
                rw [hXo92] at o92
                rw [hl] at o92 ⊢
                have no92 : Xo92.length ≤ 13 := by rw [← hl]; simp; omega
                have HXo92 := Lib.hid hXo92
                clear hl hXo92
                refine hK.out _ _ trivial (fun hHeld => ?_)
                clear hK K
                (try simp only [Act.put, List.getElem_toArray, List.getElem_cons_zero, List.getElem_cons_succ, List.setIfInBounds_toArray, List.set_cons_zero, List.set_cons_succ])
                clear oL
                refine wpAnyH_ready (rs := [13]) (by kernel_rfl) (by simp) ?_
                refine AllReadyH.cons rfl (fun K hK => ?_) AllReadyH.nil
                refine step_appendF dyePartF rfl wy (.tmp 92) (.tmp 95) 24 (.agg #[.string ⟨#[]⟩, .int .i64 0]) 24 rfl Try.underlying24 info_DyePart rfl (by decide) (by decide) P (.slice Ao92 Xo92.length co92) Xo92 (M.drop k) g8 (if c8 = k then 0 else 0 + k * 2) (M.length - k) (c8 - k) P (by simp [Act.eval]) (by simp [Act.eval]) o92 (HX.out.cut hk) (by simp; omega) HX.sz ?_
                intro Ao96 co96 wz o96 hg
                replace HX := HX.grown hg (fun q hq => (o92.bd q hq).1)
                clear hg o92
                obtain ⟨Xo96, hXo96⟩ : ∃ m, Xo92 ++ (M.drop k) = m := ⟨_, rfl⟩
                have hl : (Xo92 : List DyePartR).length + (M.drop k).length = Xo96.length := by rw [← hXo96, List.length_append]
                rw [hXo96] at o96
                rw [hl] at o96 ⊢
                have no96 : Xo96.length ≤ 26 := by rw [← hl]; simp; omega
                have HXo96 := Lib.hid hXo96
                clear hl hXo96
                refine hK.out _ _ trivial (fun hHeld => ?_)
                clear hK K
                (try simp only [Act.put, List.getElem_toArray, List.getElem_cons_zero, List.getElem_cons_succ, List.setIfInBounds_toArray, List.set_cons_zero, List.set_cons_succ])
                refine wpAnyH_take (i := 14) (v := ?_) rfl (by kernel_rfl) (by kernel_rfl) (by kernel_rfl) (fun _ _ _ h => h) (Or.inl ⟨by rfl, ?_⟩) (by assumption) ?_
                rotate_left
                · intro w hSw; go_simp; (try with_reducible rfl)
                (try simp only [Act.put, List.getElem_toArray, List.getElem_cons_zero, List.getElem_cons_succ, List.setIfInBounds_toArray, List.set_cons_zero, List.set_cons_succ])
                refine wpAnyH_done (by kernel_rfl) ?_ _
                refine NoPanic.normal ?_
                obtain ⟨g2, rfl, _, _⟩ := o96.some_ (by rw [← HXo96.out, ← HXo92.out]; simp; omega)
                have HMM : Hid (MixAt a b sh T (i + 1) Xo96) := Lib.hid (by rw [← HXo96.out, ← HXo92.out, ← HXo87.out, List.nil_append, ← HNS.out]; exact mixAt_ins HM.out HQ.out HS.out (Int.not_lt.2 HO.out) hk HBH.out HAH.out)
                have h9 := HX.all
                have hb := HX.bel
                have hz := Nat.le_trans HX.b4 HX.sz
                replace o96 := o96.mono HX.lo
                clear HX hHeld
                go_wp2
                go_roundw
                case rel => exact ⟨i + 1, Xo96, g2, _, by omega, by go_num, by first | rfl | trivial, o96, HMM, h9, hb, hz⟩
                case measure => simp [intOf]; omega
              refine AllReadyH.cons rfl (fun K hK => ?_) AllReadyH.nil
              go_simp
              have oL : OwnF dyePartF (wd.alloc (.cells #[.string s, .int .i64 N] 43)) P (.slice (some ⟨wd.heap.size, 0, none⟩) 1 1) [(⟨s, N⟩ : DyePartR)] := OwnF.made dyePartF #[.string s, .int .i64 N] [(⟨s, N⟩ : DyePartR)] HX.sz (by simp [maxLen]) rfl (by intro x hx; cases List.mem_singleton.1 hx; exact HOK.out)
              replace HX := HX.alloc (.cells #[.string s, .int .i64 N] 43)
              obtain ⟨l, hq⟩ : ∃ q, wd.heap.size = q := ⟨_, rfl⟩
              rw [hq] at oL ⊢
              obtain ⟨w1, hw⟩ : ∃ v, wd.alloc (.cells #[.string s, .int .i64 N] 43) = v := ⟨_, rfl⟩
              rw [hw] at HX oL ⊢
              clear hw hq
              refine hK.out _ _ trivial (fun hHeld => ?_)
              clear hK K
              (try simp only [Act.put, List.getElem_toArray, List.getElem_cons_zero, List.getElem_cons_succ, List.setIfInBounds_toArray, List.set_cons_zero, List.set_cons_succ])
              refine wpAnyH_ready (rs := [0]) (by kernel_rfl) (by simp) ?_
              refine AllReadyH.cons rfl (fun K hK => ?_) AllReadyH.nil
              have oL0 := oL
              go_simp
              have oE : OwnF dyePartF (w1.alloc (.cells #[] 43)) P (.slice (some ⟨w1.heap.size, 0, none⟩) 0 0) [] := OwnF.empty dyePartF HX.sz
              replace oL := oL.alloc (.cells #[] 43)
              have hne : w1.heap.size ≠ l := by have h1 := (oL0.bd l rfl).2; omega
              replace HX := HX.alloc (.cells #[] 43)
              obtain ⟨e, hq⟩ : ∃ q, w1.heap.size = q := ⟨_, rfl⟩
              rw [hq] at oE hne ⊢
              obtain ⟨w2, hw⟩ : ∃ v, w1.alloc (.cells #[] 43) = v := ⟨_, rfl⟩
              rw [hw] at HX oE oL ⊢
              clear hw hq
              clear oL0
              refine hK.out _ _ trivial (fun hHeld => ?_)
              clear hK K
              (try simp only [Act.put, List.getElem_toArray, List.getElem_cons_zero, List.setIfInBounds_toArray, List.set_cons_zero, List.set_cons_succ])
              refine wpAnyH_ready (rs := [4]) (by kernel_rfl) (by simp) ?_
              refine AllReadyH.cons rfl (fun K hK => ?_) AllReadyH.nil
              refine step_appendF dyePartF rfl w2 (.tmp 83) (.tmp 86) 24 (.agg #[.string ⟨#[]⟩, .int .i64 0]) 24 rfl Try.underlying24 info_DyePart rfl (by decide) (by decide) P (.slice (some ⟨e, 0, none⟩) 0 0) ([] : List DyePartR) (M.take k) g8 0 k c8 P (by simp [Act.eval]) (by simp [Act.eval]) oE (HX.out.head hk) (by simp; omega) HX.sz ?_
              intro Ao87 co87 w3 o87 hg
              replace HX := HX.grown hg (fun q hq => (oE.bd q hq).1)
              replace oL := oL.mark hg (fun q q' hq hq' => by cases hq; cases hq'; exact hne)
              clear hg oE
              obtain ⟨Xo87, hXo87⟩ : ∃ m, ([] : List DyePartR) ++ (M.take k) = m := ⟨_, rfl⟩
              have hl : (([] : List DyePartR) : List DyePartR).length + (M.take k).length = Xo87.length := by rw [← hXo87, List.length_append]
              rw [hXo87] at o87
              rw [hl] at o87 ⊢
              have no87 : Xo87.length ≤ 12 := by rw [← hl]; simp; omega
              have HXo87 := Lib.hid hXo87
              clear hl hXo87
              refine hK.out _ _ trivial (fun hHeld => ?_)
              clear hK K
              (try simp only [Act.put, List.getElem_toArray, List.getElem_cons_zero, List.getElem_cons_succ, List.setIfInBounds_toArray, List.set_cons_zero, List.set_cons_succ])
              refine wpAnyH_ready (rs := [9]) (by kernel_rfl) (by simp) ?_
              refine AllReadyH.cons rfl (fun K hK => ?_) AllReadyH.nil
              refine step_appendF dyePartF rfl w3 (.tmp 87) (.tmp 91) 24 (.agg #[.string ⟨#[]⟩, .int .i64 0]) 24 rfl Try.underlying24 info_DyePart rfl (by decide) (by decide) P (.slice Ao87 Xo87.length co87) Xo87 [(⟨s, N⟩ : DyePartR)] l 0 1 1 _ (by simp [Act.eval]) (by simp [Act.eval]) o87 oL.rd (by simp; omega) HX.sz ?_
              intro Ao92 co92 wy o92 hg
              replace HX := HX.grown hg (fun q hq => (o87.bd q hq).1)
              clear hg o87
              obtain ⟨Xo92, hXo92⟩ : ∃ m, Xo87 ++ [(⟨s, N⟩ : DyePartR)] = m := ⟨_, rfl⟩
              have hl : (Xo87 : List DyePartR).length + [(⟨s, N⟩ : DyePartR)].length = Xo92.length := by rw [← hXo92, List.length_append]
              rw [hXo92] at o92
              rw [hl] at o92 ⊢
              have no92 : Xo92.length ≤ 13 := by rw [← hl]; simp; omega
              have HXo92 := Lib.hid hXo92
              clear hl hXo92
              refine hK.out _ _ trivial (fun hHeld => ?_)
              clear hK K
              (try simp only [Act.put, List.getElem_toArray, List.getElem_cons_zero, List.getElem_cons_succ, List.setIfInBounds_toArray, List.set_cons_zero, List.set_cons_succ])
              clear oL
              refine wpAnyH_ready (rs := [13]) (by kernel_rfl) (by simp) ?_
              refine AllReadyH.cons rfl (fun K hK => ?_) AllReadyH.nil
              refine step_appendF dyePartF rfl wy (.tmp 92) (.tmp 95) 24 (.agg #[.string ⟨#[]⟩, .int .i64 0]) 24 rfl Try.underlying24 info_DyePart rfl (by decide) (by decide) P (.slice Ao92 Xo92.length co92) Xo92 (M.drop k) g8 (if c8 = k then 0 else 0 + k * 2) (M.length - k) (c8 - k) P (by simp [Act.eval]) (by simp [Act.eval]) o92 (HX.out.cut hk) (by simp; omega) HX.sz ?_
              intro Ao96 co96 wz o96 hg
              replace HX := HX.grown hg (fun q hq => (o92.bd q hq).1)
              clear hg o92
              obtain ⟨Xo96, hXo96⟩ : ∃ m, Xo92 ++ (M.drop k) = m := ⟨_, rfl⟩
              have hl : (Xo92 : List DyePartR).length + (M.drop k).length = Xo96.length := by rw [← hXo96, List.length_append]
              rw [hXo96] at o96
              rw [hl] at o96 ⊢
              have no96 : Xo96.length ≤ 26 := by rw [← hl]; simp; omega
              have HXo96 := Lib.hid hXo96
              clear hl hXo96
              refine hK.out _ _ trivial (fun hHeld => ?_)
              clear hK K
              (try simp only [Act.put, List.getElem_toArray, List.getElem_cons_zero, List.getElem_cons_succ, List.setIfInBounds_toArray, List.set_cons_zero, List.set_cons_succ])
              refine wpAnyH_take (i := 14) (v := ?_) rfl (by kernel_rfl) (by kernel_rfl) (by kernel_rfl) (fun _ _ _ h => h) (Or.inl ⟨by rfl, ?_⟩) (by assumption) ?_
              rotate_left
              · intro w hSw; go_simp; (try with_reducible rfl)
              (try simp only [Act.put, List.getElem_toArray, List.getElem_cons_zero, List.getElem_cons_succ, List.setIfInBounds_toArray, List.set_cons_zero, List.set_cons_succ])
              refine wpAnyH_done (by kernel_rfl) ?_ _
              refine NoPanic.normal ?_
              obtain ⟨g2, rfl, _, _⟩ := o96.some_ (by rw [← HXo96.out, ← HXo92.out]; simp; omega)
              have HMM : Hid (MixAt a b sh T (i + 1) Xo96) := Lib.hid (by rw [← HXo96.out, ← HXo92.out, ← HXo87.out, List.nil_append, ← HNS.out]; exact mixAt_ins HM.out HQ.out HS.out (Int.not_lt.2 HO.out) hk HBH.out HAH.out)
              have h9 := HX.all
              have hb := HX.bel
              have hz := Nat.le_trans HX.b4 HX.sz
              replace o96 := o96.mono HX.lo
              clear HX hHeld
              go_wp2
              go_roundw
              case rel => exact ⟨i + 1, Xo96, g2, _, by omega, by go_num, by first | rfl | trivial, o96, HMM, h9, hb, hz⟩
              case measure => simp [intOf]; omega
      · have HMM := Lib.hid (mixAt_skip HM.out HQ.out (show ¬ 0 < sumS a b sh s by rw [hsum]; exact hpos))
        have hN0 : N = 0 := by omega
        subst hN0
        clear hN hNu hu hv hsum
        go_wp2
        clear e1 e2 e3 e4 e5 e6 e7
        go_roundw
        case rel => exact ⟨i + 1, M, g8, c8, by omega, by go_num, rfl, own8, HMM, hR9, HB, hz⟩
        case measure => simp [intOf]; omega
    · have HE := Lib.hid (mixAt_end (HT.out ▸ HM.out) (show (a ++ b).length ≤ i by rw [HT.out]; omega))
      go_wp2_with fail
      refine (l7Good_any _ _ c8 wr.heap.size M _ own8.rd (Nat.le_refl _)).mono ?_
      rintro e w7 ⟨rfl, hb7⟩
      replace own8 := own8.all hb7
      replace HB := HB.trans (hb7.mono hsz)
      clear hb7
      rw [HE.out] at own8 ⊢
      have hzz := HB.size
      cases hm : recB (mixL a b sh)
      case false =>
        have H2 := Lib.hid (HOKK.out.trans hm)
        have H := Lib.hid (mix_no H2.out)
        go_wp2
        go_ret2
        rw [H.out, H2.out]
        exact ⟨_, 0, rfl, OwnF.empty _ hzz, HB.alloc hzz _⟩
      have H2 := Lib.hid (HOKK.out.trans hm)
      have H := Lib.hid (mix_yes H2.out)
      go_wp2
      go_ret2
      rw [H.out, H2.out]
      exact ⟨_, c8, rfl, own8, HB⟩
end Go.Proofs.Ytnfleambfidllaa
