/- The walk of the model's l1Put: a number put into its place of a list in order. Conditions: the number is not in the list yet, the list is short. -/
import Derived.Test.YtihhlldpdfihfaaStepF
import Derived.Test.YtihhlldpdfihfaaCopyF
import Derived.Test.YtihhlldpdfihfaaPut1Math
import Derived.Deep.RegionHeld3
namespace Go.Proofs.Ytihhlldpdfihfaa
open Go.RowKit

/-- What the orders of the region keep. -/
structure Px (w : World) (A : Option Addr) (c : Nat) (xs : List Int) (P : Nat) (wx : World) : Prop where
  out : RdF intF wx P A xs.length c xs
  bel : Below w.heap.size w wx
  sz : P ≤ wx.heap.size
  lo : w.heap.size ≤ P
section
variable {w wx wy : World} {P c : Nat} {A : Option Addr} {xs : List Int}
theorem Px.drew (h : Px w A c xs P wx) : Px w A c xs P wx.drew := ⟨h.out.drew, belowD h.bel, h.sz, h.lo⟩
theorem Px.alloc (h : Px w A c xs P wx) (o : Obj) : Px w A c xs P (wx.alloc o) := ⟨h.out.alloc h.sz o, h.bel.alloc h.bel.size o, by have := h.sz; simp; omega, h.lo⟩
theorem Px.grown (h : Px w A c xs P wx) {row : Option Nat} (hg : wx.grownBy wy row) (hr : ∀ k, row = some k → P ≤ k) : Px w A c xs P wy :=
  ⟨h.out.mark hg hr h.sz, h.bel.grown hg h.bel.size (fun k hk => Nat.le_trans h.lo (hr k hk)), Nat.le_trans h.sz hg.size, h.lo⟩
end
set_option maxRecDepth 100000 in
set_option maxHeartbeats 4000000 in
theorem l1Put_new (b off n c B : Nat) (xs : List Int) (x : Int) (w : World) (h : Rd w B (some ⟨b, off, none⟩) n c xs) (hB : B ≤ w.heap.size) (hx : I64 x) (hlen : n ≤ 1000000) (hne : x ∉ xs) :
    Calls Try.prog 51 #[.slice (some ⟨b, off, none⟩) n c, .int .i64 x] w fun e w' => ∃ g c', e = .returned (.slice (some ⟨g, 0, none⟩) (putI xs x).length c') ∧ Own w' w.heap.size (.slice (some ⟨g, 0, none⟩) (putI xs x).length c') (putI xs x) ∧ Below w.heap.size w w' := by
  have HOK := Lib.hid hx
  have HNE := Lib.hid hne
  obtain rfl := h.len
  clear hne
  go_enter Try.func51, Try.ntmps51
  go_wp2
  go_loopw [5] (fun i wr => ∃ k : Nat, k ≤ xs.length ∧ i = .int .i64 k ∧ LowTo xs x k ∧ wr = w) (fun i _ => xs.length - (intOf i).toNat)
  case atStart => exact ⟨0, Nat.zero_le _, rfl, lowTo_zero _ _, rfl⟩
  case round =>
    obtain ⟨k, hk, rfl, hlow, rfl⟩ := hrel
    have HL := Lib.hid hlow
    clear hlow
    have hki : (0 : Int) ≤ (k : Int) := by omega
    by_cases hlt : k < xs.length
    · obtain ⟨b', off', y, e, _, hc, _, _, HY⟩ := h.at hlt
      cases e
      have hkn : (k : Int) < (xs.length : Int) := by omega
      by_cases hy : y < x
      · have H := Lib.hid (lowTo_step HL.out hlt HY.out hy)
        go_wp2
        go_roundw
        case rel => exact ⟨k + 1, by omega, by go_num, H.out, by first | rfl | trivial⟩
        case measure => simp [intOf]; omega
      · have hyx : (y == x) = false := by
          rw [beq_eq_false_iff_ne]
          rintro rfl
          exact HNE.out (by have := HY.out; rw [getD_at hlt] at this; rw [← this]; exact List.getElem_mem hlt)
        have HE := Lib.hid (lowTo_end HL.out (fun hq => by rw [HY.out]; exact hy))
        go_wp2
        clear hc hyx hy
        have hkc : k ≤ c := Nat.le_trans hk h.cap
        have HX : Px wr (some ⟨b, off, none⟩) c xs wr.heap.size wr := ⟨(h.more hB).toF, Below.refl _ _, Nat.le_refl _, Nat.le_refl _⟩
        generalize hP : wr.heap.size = P at HX
        refine wp_region_noPanic ?_
        refine wp_region_held_drew (S := fun _ => True) (by kernel_rfl) trivial (fun hHeld => ?_)
        replace HX := HX.drew
        obtain ⟨wd, hwd⟩ : ∃ v, wr.drew = v := ⟨_, rfl⟩
        rw [hwd] at HX ⊢
        refine wpAnyH_take (i := 1) (v := ?_) rfl (by kernel_rfl) (by kernel_rfl) (by kernel_rfl) (fun _ _ _ h => h) (Or.inl ⟨by rfl, ?_⟩) (by assumption) ?_
        rotate_left
        · intro w hSw; go_simp; (try with_reducible rfl)
        (try simp only [Act.put, List.getElem_toArray, List.getElem_cons_zero, List.getElem_cons_succ, List.setIfInBounds_toArray, List.set_cons_zero, List.set_cons_succ])
        refine wpAnyH_take (i := 2) (v := ?_) rfl (by kernel_rfl) (by kernel_rfl) (by kernel_rfl) (fun _ _ _ h => h) (Or.inl ⟨by rfl, ?_⟩) (by assumption) ?_
        rotate_left
        · intro w hSw; go_simp; (try with_reducible rfl)
        (try simp only [Act.put, List.getElem_toArray, List.getElem_cons_zero, List.getElem_cons_succ, List.setIfInBounds_toArray, List.set_cons_zero, List.set_cons_succ])
        refine wpAnyH_take (i := 3) (v := .slice (some ⟨b, off, none⟩) k c) rfl (by kernel_rfl) (by kernel_rfl) (by kernel_rfl) (fun _ _ _ h => h) (Or.inl ⟨by rfl, ?_⟩) (by assumption) ?_
        · intro w hSw; go_simp; (try simp [go_sem]); (try rfl); (try (intro hx; exfalso; omega)); (try (split <;> simp))
        (try simp only [Act.put, List.getElem_toArray, List.getElem_cons_zero, List.getElem_cons_succ, List.setIfInBounds_toArray, List.set_cons_zero, List.set_cons_succ])
        refine wpAnyH_take (i := 5) (v := ?_) rfl (by kernel_rfl) (by kernel_rfl) (by kernel_rfl) (fun _ _ _ h => h) (Or.inl ⟨by rfl, ?_⟩) (by assumption) ?_
        rotate_left
        · intro w hSw; go_simp; (try with_reducible rfl)
        (try simp only [Act.put, List.getElem_toArray, List.getElem_cons_zero, List.getElem_cons_succ, List.setIfInBounds_toArray, List.set_cons_zero, List.set_cons_succ])
        refine wpAnyH_take (i := 8) (v := ?_) rfl (by kernel_rfl) (by kernel_rfl) (by kernel_rfl) (fun _ _ _ h => h) (Or.inl ⟨by rfl, ?_⟩) (by assumption) ?_
        rotate_left
        · intro w hSw; go_simp; (try with_reducible rfl)
        (try simp only [Act.put, List.getElem_toArray, List.getElem_cons_zero, List.getElem_cons_succ, List.setIfInBounds_toArray, List.set_cons_zero, List.set_cons_succ])
        refine wpAnyH_take (i := 9) (v := ?_) rfl (by kernel_rfl) (by kernel_rfl) (by kernel_rfl) (fun _ _ _ h => h) (Or.inl ⟨by rfl, ?_⟩) (by assumption) ?_
        rotate_left
        · intro w hSw; go_simp; (try with_reducible rfl)
        (try simp only [Act.put, List.getElem_toArray, List.getElem_cons_zero, List.getElem_cons_succ, List.setIfInBounds_toArray, List.set_cons_zero, List.set_cons_succ])
        refine wpAnyH_take (i := 10) (v := .slice (some ⟨b, if c = k then off else off + k * 1, none⟩) (xs.length - k) (c - k)) rfl (by kernel_rfl) (by kernel_rfl) (by kernel_rfl) (fun _ _ _ h => h) (Or.inl ⟨by rfl, ?_⟩) (by assumption) ?_
        · intro w hSw; go_simp; (try simp [go_sem]); (try rfl); (try (intro hx; exfalso; omega)); (try (split <;> simp))
        (try simp only [Act.put, List.getElem_toArray, List.getElem_cons_zero, List.getElem_cons_succ, List.setIfInBounds_toArray, List.set_cons_zero, List.set_cons_succ])
        refine wpAnyH_ready (rs := [0, 6]) (by kernel_rfl) (by simp) ?_
        refine AllReadyH.cons rfl (fun K hK => ?_) ?_
        · skip
          go_simp
          have oE : OwnF intF (wd.alloc (.cells #[] 3)) P (.slice (some ⟨wd.heap.size, 0, none⟩) 0 0) [] := OwnF.empty intF HX.sz
          replace HX := HX.alloc (.cells #[] 3)
          obtain ⟨e, hq⟩ : ∃ q, wd.heap.size = q := ⟨_, rfl⟩
          rw [hq] at oE ⊢
          obtain ⟨w1, hw⟩ : ∃ v, wd.alloc (.cells #[] 3) = v := ⟨_, rfl⟩
          rw [hw] at HX oE ⊢
          clear hw hq
          refine hK.out _ _ trivial (fun hHeld => ?_)
          clear hK K
          (try simp only [Act.put, List.getElem_toArray, List.getElem_cons_zero, List.setIfInBounds_toArray, List.set_cons_zero, List.set_cons_succ])
          refine wpAnyH_ready (rs := [4, 6]) (by kernel_rfl) (by simp) ?_
          refine AllReadyH.cons rfl (fun K hK => ?_) ?_
          · skip
            refine step_appendF intF rfl w1 (.tmp 33) (.tmp 36) 29 (.int .i64 0) 8 rfl Try.underlying29 info_int rfl (by decide) (by decide) P (.slice (some ⟨e, 0, none⟩) 0 0) ([] : List Int) (xs.take k) b off k c P (by simp [Act.eval]) (by simp [Act.eval]) oE (HX.out.head hk) (by simp; omega) HX.sz ?_
            intro Aoa coa w2 oa hg
            replace HX := HX.grown hg (fun q hq => (oE.bd q hq).1)
            clear hg oE
            obtain ⟨Xoa, hXoa⟩ : ∃ m, ([] : List Int) ++ (xs.take k) = m := ⟨_, rfl⟩
            have hl : (([] : List Int) : List Int).length + (xs.take k).length = Xoa.length := by rw [← hXoa, List.length_append]
            rw [hXoa] at oa
            rw [hl] at oa ⊢
            have noa : Xoa.length ≤ 1000000 := by rw [← hl]; simp; omega
            have HXoa := Lib.hid hXoa
            clear hl hXoa
            refine hK.out _ _ trivial (fun hHeld => ?_)
            clear hK K
            (try simp only [Act.put, List.getElem_toArray, List.getElem_cons_zero, List.getElem_cons_succ, List.setIfInBounds_toArray, List.set_cons_zero, List.set_cons_succ])
            refine wpAnyH_ready (rs := [6]) (by kernel_rfl) (by simp) ?_
            refine AllReadyH.cons rfl (fun K hK => ?_) AllReadyH.nil
            go_simp
            have oL : OwnF intF (w2.alloc (.cells #[.int .i64 x] 3)) P (.slice (some ⟨w2.heap.size, 0, none⟩) 1 1) [x] := OwnF.made intF #[.int .i64 x] [x] HX.sz (by simp [maxLen]) rfl (by intro y hy; cases List.mem_singleton.1 hy; exact HOK.out)
            replace oa := oa.alloc (.cells #[.int .i64 x] 3)
            replace HX := HX.alloc (.cells #[.int .i64 x] 3)
            obtain ⟨l, hq⟩ : ∃ q, w2.heap.size = q := ⟨_, rfl⟩
            rw [hq] at oL ⊢
            obtain ⟨w3, hw⟩ : ∃ v, w2.alloc (.cells #[.int .i64 x] 3) = v := ⟨_, rfl⟩
            rw [hw] at HX oL oa ⊢
            clear hw hq
            refine hK.out _ _ trivial (fun hHeld => ?_)
            clear hK K
            (try simp only [Act.put, List.getElem_toArray, List.getElem_cons_zero, List.getElem_cons_succ, List.setIfInBounds_toArray, List.set_cons_zero, List.set_cons_succ])
            refine wpAnyH_ready (rs := [7]) (by kernel_rfl) (by simp) ?_
            refine AllReadyH.cons rfl (fun K hK => ?_) AllReadyH.nil
            refine step_appendF intF rfl w3 (.tmp 37) (.tmp 39) 29 (.int .i64 0) 8 rfl Try.underlying29 info_int rfl (by decide) (by decide) P (.slice Aoa Xoa.length coa) Xoa [x] l 0 1 1 _ (by simp [Act.eval]) (by simp [Act.eval]) oa oL.rd (by simp; omega) HX.sz ?_
            intro Aob cob wy ob hg
            replace HX := HX.grown hg (fun q hq => (oa.bd q hq).1)
            clear hg oa
            obtain ⟨Xob, hXob⟩ : ∃ m, Xoa ++ [x] = m := ⟨_, rfl⟩
            have hl : (Xoa : List Int).length + [x].length = Xob.length := by rw [← hXob, List.length_append]
            rw [hXob] at ob
            rw [hl] at ob ⊢
            have nob : Xob.length ≤ 1000001 := by rw [← hl]; simp; omega
            have HXob := Lib.hid hXob
            clear hl hXob
            refine hK.out _ _ trivial (fun hHeld => ?_)
            clear hK K
            (try simp only [Act.put, List.getElem_toArray, List.getElem_cons_zero, List.getElem_cons_succ, List.setIfInBounds_toArray, List.set_cons_zero, List.set_cons_succ])
            clear oL
            refine wpAnyH_ready (rs := [11]) (by kernel_rfl) (by simp) ?_
            refine AllReadyH.cons rfl (fun K hK => ?_) AllReadyH.nil
            refine step_appendF intF rfl wy (.tmp 40) (.tmp 43) 29 (.int .i64 0) 8 rfl Try.underlying29 info_int rfl (by decide) (by decide) P (.slice Aob Xob.length cob) Xob (xs.drop k) b (if c = k then off else off + k * 1) (xs.length - k) (c - k) P (by simp [Act.eval]) (by simp [Act.eval]) ob (HX.out.cut hk) (by simp; omega) HX.sz ?_
            intro Aoc coc wz oc hg
            replace HX := HX.grown hg (fun q hq => (ob.bd q hq).1)
            clear hg ob
            obtain ⟨Xoc, hXoc⟩ : ∃ m, Xob ++ (xs.drop k) = m := ⟨_, rfl⟩
            have hl : (Xob : List Int).length + (xs.drop k).length = Xoc.length := by rw [← hXoc, List.length_append]
            rw [hXoc] at oc
            rw [hl] at oc ⊢
            have noc : Xoc.length ≤ 2000001 := by rw [← hl]; simp; omega
            have HXoc := Lib.hid hXoc
            clear hl hXoc
            refine hK.out _ _ trivial (fun hHeld => ?_)
            clear hK K
            (try simp only [Act.put, List.getElem_toArray, List.getElem_cons_zero, List.getElem_cons_succ, List.setIfInBounds_toArray, List.set_cons_zero, List.set_cons_succ])
            refine wpAnyH_take (i := 12) (v := ?_) rfl (by kernel_rfl) (by kernel_rfl) (by kernel_rfl) (fun _ _ _ h => h) (Or.inl ⟨by rfl, ?_⟩) (by assumption) ?_
            rotate_left
            · intro w hSw; go_simp; (try with_reducible rfl)
            (try simp only [Act.put, List.getElem_toArray, List.getElem_cons_zero, List.getElem_cons_succ, List.setIfInBounds_toArray, List.set_cons_zero, List.set_cons_succ])
            refine wpAnyH_done (by kernel_rfl) ?_ _
            refine NoPanic.normal ?_
            obtain ⟨g2, rfl, _, _⟩ := oc.some_ (by rw [← HXoc.out, ← HXob.out]; simp; omega)
            have he : Xoc = putI xs x := by rw [← HXoc.out, ← HXob.out, ← HXoa.out, List.nil_append, HE.out.1, HE.out.2, List.append_assoc]; rfl
            subst he
            have hb := HX.bel
            replace oc := OwnF.toI (oc.mono HX.lo)
            clear HX hHeld
            subst hP
            go_wp2
            all_goals
              go_ret
              exact ⟨g2, _, rfl, oc, hb⟩
          refine AllReadyH.cons rfl (fun K hK => ?_) AllReadyH.nil
          have oE0 := oE
          go_simp
          have oL : OwnF intF (w1.alloc (.cells #[.int .i64 x] 3)) P (.slice (some ⟨w1.heap.size, 0, none⟩) 1 1) [x] := OwnF.made intF #[.int .i64 x] [x] HX.sz (by simp [maxLen]) rfl (by intro y hy; cases List.mem_singleton.1 hy; exact HOK.out)
          replace oE := oE.alloc (.cells #[.int .i64 x] 3)
          have hne : w1.heap.size ≠ e := by have h1 := (oE0.bd e rfl).2; omega
          replace HX := HX.alloc (.cells #[.int .i64 x] 3)
          obtain ⟨l, hq⟩ : ∃ q, w1.heap.size = q := ⟨_, rfl⟩
          rw [hq] at oL hne ⊢
          obtain ⟨w2, hw⟩ : ∃ v, w1.alloc (.cells #[.int .i64 x] 3) = v := ⟨_, rfl⟩
          rw [hw] at HX oL oE ⊢
          clear hw hq
          clear oE0
          refine hK.out _ _ trivial (fun hHeld => ?_)
          clear hK K
          (try simp only [Act.put, List.getElem_toArray, List.getElem_cons_zero, List.getElem_cons_succ, List.setIfInBounds_toArray, List.set_cons_zero, List.set_cons_succ])
          refine wpAnyH_ready (rs := [4]) (by kernel_rfl) (by simp) ?_
          refine AllReadyH.cons rfl (fun K hK => ?_) AllReadyH.nil
          refine step_appendF intF rfl w2 (.tmp 33) (.tmp 36) 29 (.int .i64 0) 8 rfl Try.underlying29 info_int rfl (by decide) (by decide) P (.slice (some ⟨e, 0, none⟩) 0 0) ([] : List Int) (xs.take k) b off k c P (by simp [Act.eval]) (by simp [Act.eval]) oE (HX.out.head hk) (by simp; omega) HX.sz ?_
          intro Aoa coa w3 oa hg
          replace HX := HX.grown hg (fun q hq => (oE.bd q hq).1)
          replace oL := oL.mark hg (fun q q' hq hq' => by cases hq; cases hq'; exact hne.symm)
          clear hg oE
          obtain ⟨Xoa, hXoa⟩ : ∃ m, ([] : List Int) ++ (xs.take k) = m := ⟨_, rfl⟩
          have hl : (([] : List Int) : List Int).length + (xs.take k).length = Xoa.length := by rw [← hXoa, List.length_append]
          rw [hXoa] at oa
          rw [hl] at oa ⊢
          have noa : Xoa.length ≤ 1000000 := by rw [← hl]; simp; omega
          have HXoa := Lib.hid hXoa
          clear hl hXoa
          refine hK.out _ _ trivial (fun hHeld => ?_)
          clear hK K
          (try simp only [Act.put, List.getElem_toArray, List.getElem_cons_zero, List.getElem_cons_succ, List.setIfInBounds_toArray, List.set_cons_zero, List.set_cons_succ])
          refine wpAnyH_ready (rs := [7]) (by kernel_rfl) (by simp) ?_
          refine AllReadyH.cons rfl (fun K hK => ?_) AllReadyH.nil
          refine step_appendF intF rfl w3 (.tmp 37) (.tmp 39) 29 (.int .i64 0) 8 rfl Try.underlying29 info_int rfl (by decide) (by decide) P (.slice Aoa Xoa.length coa) Xoa [x] l 0 1 1 _ (by simp [Act.eval]) (by simp [Act.eval]) oa oL.rd (by simp; omega) HX.sz ?_
          intro Aob cob wy ob hg
          replace HX := HX.grown hg (fun q hq => (oa.bd q hq).1)
          clear hg oa
          obtain ⟨Xob, hXob⟩ : ∃ m, Xoa ++ [x] = m := ⟨_, rfl⟩
          have hl : (Xoa : List Int).length + [x].length = Xob.length := by rw [← hXob, List.length_append]
          rw [hXob] at ob
          rw [hl] at ob ⊢
          have nob : Xob.length ≤ 1000001 := by rw [← hl]; simp; omega
          have HXob := Lib.hid hXob
          clear hl hXob
          refine hK.out _ _ trivial (fun hHeld => ?_)
          clear hK K
          (try simp only [Act.put, List.getElem_toArray, List.getElem_cons_zero, List.getElem_cons_succ, List.setIfInBounds_toArray, List.set_cons_zero, List.set_cons_succ])
          clear oL
          refine wpAnyH_ready (rs := [11]) (by kernel_rfl) (by simp) ?_
          refine AllReadyH.cons rfl (fun K hK => ?_) AllReadyH.nil
          refine step_appendF intF rfl wy (.tmp 40) (.tmp 43) 29 (.int .i64 0) 8 rfl Try.underlying29 info_int rfl (by decide) (by decide) P (.slice Aob Xob.length cob) Xob (xs.drop k) b (if c = k then off else off + k * 1) (xs.length - k) (c - k) P (by simp [Act.eval]) (by simp [Act.eval]) ob (HX.out.cut hk) (by simp; omega) HX.sz ?_
          intro Aoc coc wz oc hg
          replace HX := HX.grown hg (fun q hq => (ob.bd q hq).1)
          clear hg ob
          obtain ⟨Xoc, hXoc⟩ : ∃ m, Xob ++ (xs.drop k) = m := ⟨_, rfl⟩
          have hl : (Xob : List Int).length + (xs.drop k).length = Xoc.length := by rw [← hXoc, List.length_append]
          rw [hXoc] at oc
          rw [hl] at oc ⊢
          have noc : Xoc.length ≤ 2000001 := by rw [← hl]; simp; omega
          have HXoc := Lib.hid hXoc
          clear hl hXoc
          refine hK.out _ _ trivial (fun hHeld => ?_)
          clear hK K
          (try simp only [Act.put, List.getElem_toArray, List.getElem_cons_zero, List.getElem_cons_succ, List.setIfInBounds_toArray, List.set_cons_zero, List.set_cons_succ])
          refine wpAnyH_take (i := 12) (v := ?_) rfl (by kernel_rfl) (by kernel_rfl) (by kernel_rfl) (fun _ _ _ h => h) (Or.inl ⟨by rfl, ?_⟩) (by assumption) ?_
          rotate_left
          · intro w hSw; go_simp; (try with_reducible rfl)
          (try simp only [Act.put, List.getElem_toArray, List.getElem_cons_zero, List.getElem_cons_succ, List.setIfInBounds_toArray, List.set_cons_zero, List.set_cons_succ])
          refine wpAnyH_done (by kernel_rfl) ?_ _
          refine NoPanic.normal ?_
          obtain ⟨g2, rfl, _, _⟩ := oc.some_ (by rw [← HXoc.out, ← HXob.out]; simp; omega)
          have he : Xoc = putI xs x := by rw [← HXoc.out, ← HXob.out, ← HXoa.out, List.nil_append, HE.out.1, HE.out.2, List.append_assoc]; rfl
          subst he
          have hb := HX.bel
          replace oc := OwnF.toI (oc.mono HX.lo)
          clear HX hHeld
          subst hP
          go_wp2
          all_goals
            go_ret
            exact ⟨g2, _, rfl, oc, hb⟩
        refine AllReadyH.cons rfl (fun K hK => ?_) AllReadyH.nil
        go_simp
        have oL : OwnF intF (wd.alloc (.cells #[.int .i64 x] 3)) P (.slice (some ⟨wd.heap.size, 0, none⟩) 1 1) [x] := OwnF.made intF #[.int .i64 x] [x] HX.sz (by simp [maxLen]) rfl (by intro y hy; cases List.mem_singleton.1 hy; exact HOK.out)
        replace HX := HX.alloc (.cells #[.int .i64 x] 3)
        obtain ⟨l, hq⟩ : ∃ q, wd.heap.size = q := ⟨_, rfl⟩
        rw [hq] at oL ⊢
        obtain ⟨w1, hw⟩ : ∃ v, wd.alloc (.cells #[.int .i64 x] 3) = v := ⟨_, rfl⟩
        rw [hw] at HX oL ⊢
        clear hw hq
        refine hK.out _ _ trivial (fun hHeld => ?_)
        clear hK K
        (try simp only [Act.put, List.getElem_toArray, List.getElem_cons_zero, List.getElem_cons_succ, List.setIfInBounds_toArray, List.set_cons_zero, List.set_cons_succ])
        refine wpAnyH_ready (rs := [0]) (by kernel_rfl) (by simp) ?_
        refine AllReadyH.cons rfl (fun K hK => ?_) AllReadyH.nil
        have oL0 := oL
        go_simp
        have oE : OwnF intF (w1.alloc (.cells #[] 3)) P (.slice (some ⟨w1.heap.size, 0, none⟩) 0 0) [] := OwnF.empty intF HX.sz
        replace oL := oL.alloc (.cells #[] 3)
        have hne : w1.heap.size ≠ l := by have h1 := (oL0.bd l rfl).2; omega
        replace HX := HX.alloc (.cells #[] 3)
        obtain ⟨e, hq⟩ : ∃ q, w1.heap.size = q := ⟨_, rfl⟩
        rw [hq] at oE hne ⊢
        obtain ⟨w2, hw⟩ : ∃ v, w1.alloc (.cells #[] 3) = v := ⟨_, rfl⟩
        rw [hw] at HX oE oL ⊢
        clear hw hq
        clear oL0
        refine hK.out _ _ trivial (fun hHeld => ?_)
        clear hK K
        (try simp only [Act.put, List.getElem_toArray, List.getElem_cons_zero, List.setIfInBounds_toArray, List.set_cons_zero, List.set_cons_succ])
        refine wpAnyH_ready (rs := [4]) (by kernel_rfl) (by simp) ?_
        refine AllReadyH.cons rfl (fun K hK => ?_) AllReadyH.nil
        refine step_appendF intF rfl w2 (.tmp 33) (.tmp 36) 29 (.int .i64 0) 8 rfl Try.underlying29 info_int rfl (by decide) (by decide) P (.slice (some ⟨e, 0, none⟩) 0 0) ([] : List Int) (xs.take k) b off k c P (by simp [Act.eval]) (by simp [Act.eval]) oE (HX.out.head hk) (by simp; omega) HX.sz ?_
        intro Aoa coa w3 oa hg
        replace HX := HX.grown hg (fun q hq => (oE.bd q hq).1)
        replace oL := oL.mark hg (fun q q' hq hq' => by cases hq; cases hq'; exact hne)
        clear hg oE
        obtain ⟨Xoa, hXoa⟩ : ∃ m, ([] : List Int) ++ (xs.take k) = m := ⟨_, rfl⟩
        have hl : (([] : List Int) : List Int).length + (xs.take k).length = Xoa.length := by rw [← hXoa, List.length_append]
        rw [hXoa] at oa
        rw [hl] at oa ⊢
        have noa : Xoa.length ≤ 1000000 := by rw [← hl]; simp; omega
        have HXoa := Lib.hid hXoa
        clear hl hXoa
        refine hK.out _ _ trivial (fun hHeld => ?_)
        clear hK K
        (try simp only [Act.put, List.getElem_toArray, List.getElem_cons_zero, List.getElem_cons_succ, List.setIfInBounds_toArray, List.set_cons_zero, List.set_cons_succ])
        refine wpAnyH_ready (rs := [7]) (by kernel_rfl) (by simp) ?_
        refine AllReadyH.cons rfl (fun K hK => ?_) AllReadyH.nil
        refine step_appendF intF rfl w3 (.tmp 37) (.tmp 39) 29 (.int .i64 0) 8 rfl Try.underlying29 info_int rfl (by decide) (by decide) P (.slice Aoa Xoa.length coa) Xoa [x] l 0 1 1 _ (by simp [Act.eval]) (by simp [Act.eval]) oa oL.rd (by simp; omega) HX.sz ?_
        intro Aob cob wy ob hg
        replace HX := HX.grown hg (fun q hq => (oa.bd q hq).1)
        clear hg oa
        obtain ⟨Xob, hXob⟩ : ∃ m, Xoa ++ [x] = m := ⟨_, rfl⟩
        have hl : (Xoa : List Int).length + [x].length = Xob.length := by rw [← hXob, List.length_append]
        rw [hXob] at ob
        rw [hl] at ob ⊢
        have nob : Xob.length ≤ 1000001 := by rw [← hl]; simp; omega
        have HXob := Lib.hid hXob
        clear hl hXob
        refine hK.out _ _ trivial (fun hHeld => ?_)
        clear hK K
        (try simp only [Act.put, List.getElem_toArray, List.getElem_cons_zero, List.getElem_cons_succ, List.setIfInBounds_toArray, List.set_cons_zero, List.set_cons_succ])
        clear oL
        refine wpAnyH_ready (rs := [11]) (by kernel_rfl) (by simp) ?_
        refine AllReadyH.cons rfl (fun K hK => ?_) AllReadyH.nil
        refine step_appendF intF rfl wy (.tmp 40) (.tmp 43) 29 (.int .i64 0) 8 rfl Try.underlying29 info_int rfl (by decide) (by decide) P (.slice Aob Xob.length cob) Xob (xs.drop k) b (if c = k then off else off + k * 1) (xs.length - k) (c - k) P (by simp [Act.eval]) (by simp [Act.eval]) ob (HX.out.cut hk) (by simp; omega) HX.sz ?_
        intro Aoc coc wz oc hg
        replace HX := HX.grown hg (fun q hq => (ob.bd q hq).1)
        clear hg ob
        obtain ⟨Xoc, hXoc⟩ : ∃ m, Xob ++ (xs.drop k) = m := ⟨_, rfl⟩
        have hl : (Xob : List Int).length + (xs.drop k).length = Xoc.length := by rw [← hXoc, List.length_append]
        rw [hXoc] at oc
        rw [hl] at oc ⊢
        have noc : Xoc.length ≤ 2000001 := by rw [← hl]; simp; omega
        have HXoc := Lib.hid hXoc
        clear hl hXoc
        refine hK.out _ _ trivial (fun hHeld => ?_)
        clear hK K
        (try simp only [Act.put, List.getElem_toArray, List.getElem_cons_zero, List.getElem_cons_succ, List.setIfInBounds_toArray, List.set_cons_zero, List.set_cons_succ])
        refine wpAnyH_take (i := 12) (v := ?_) rfl (by kernel_rfl) (by kernel_rfl) (by kernel_rfl) (fun _ _ _ h => h) (Or.inl ⟨by rfl, ?_⟩) (by assumption) ?_
        rotate_left
        · intro w hSw; go_simp; (try with_reducible rfl)
        (try simp only [Act.put, List.getElem_toArray, List.getElem_cons_zero, List.getElem_cons_succ, List.setIfInBounds_toArray, List.set_cons_zero, List.set_cons_succ])
        refine wpAnyH_done (by kernel_rfl) ?_ _
        refine NoPanic.normal ?_
        obtain ⟨g2, rfl, _, _⟩ := oc.some_ (by rw [← HXoc.out, ← HXob.out]; simp; omega)
        have he : Xoc = putI xs x := by rw [← HXoc.out, ← HXob.out, ← HXoa.out, List.nil_append, HE.out.1, HE.out.2, List.append_assoc]; rfl
        subst he
        have hb := HX.bel
        replace oc := OwnF.toI (oc.mono HX.lo)
        clear HX hHeld
        subst hP
        go_wp2
        all_goals
          go_ret
          exact ⟨g2, _, rfl, oc, hb⟩
    · have HE := Lib.hid (lowTo_end HL.out (fun hq => absurd hq hlt))
      go_wp2
      have hkc : k ≤ c := Nat.le_trans hk h.cap
      have HX : Px wr (some ⟨b, off, none⟩) c xs wr.heap.size wr := ⟨(h.more hB).toF, Below.refl _ _, Nat.le_refl _, Nat.le_refl _⟩
      generalize hP : wr.heap.size = P at HX
      refine wp_region_noPanic ?_
      refine wp_region_held_drew (S := fun _ => True) (by kernel_rfl) trivial (fun hHeld => ?_)
      replace HX := HX.drew
      obtain ⟨wd, hwd⟩ : ∃ v, wr.drew = v := ⟨_, rfl⟩
      rw [hwd] at HX ⊢
      refine wpAnyH_take (i := 1) (v := ?_) rfl (by kernel_rfl) (by kernel_rfl) (by kernel_rfl) (fun _ _ _ h => h) (Or.inl ⟨by rfl, ?_⟩) (by assumption) ?_
      rotate_left
      · intro w hSw; go_simp; (try with_reducible rfl)
      (try simp only [Act.put, List.getElem_toArray, List.getElem_cons_zero, List.getElem_cons_succ, List.setIfInBounds_toArray, List.set_cons_zero, List.set_cons_succ])
      refine wpAnyH_take (i := 2) (v := ?_) rfl (by kernel_rfl) (by kernel_rfl) (by kernel_rfl) (fun _ _ _ h => h) (Or.inl ⟨by rfl, ?_⟩) (by assumption) ?_
      rotate_left
      · intro w hSw; go_simp; (try with_reducible rfl)
      (try simp only [Act.put, List.getElem_toArray, List.getElem_cons_zero, List.getElem_cons_succ, List.setIfInBounds_toArray, List.set_cons_zero, List.set_cons_succ])
      refine wpAnyH_take (i := 3) (v := .slice (some ⟨b, off, none⟩) k c) rfl (by kernel_rfl) (by kernel_rfl) (by kernel_rfl) (fun _ _ _ h => h) (Or.inl ⟨by rfl, ?_⟩) (by assumption) ?_
      · intro w hSw; go_simp; (try simp [go_sem]); (try rfl); (try (intro hx; exfalso; omega)); (try (split <;> simp))
      (try simp only [Act.put, List.getElem_toArray, List.getElem_cons_zero, List.getElem_cons_succ, List.setIfInBounds_toArray, List.set_cons_zero, List.set_cons_succ])
      refine wpAnyH_take (i := 5) (v := ?_) rfl (by kernel_rfl) (by kernel_rfl) (by kernel_rfl) (fun _ _ _ h => h) (Or.inl ⟨by rfl, ?_⟩) (by assumption) ?_
      rotate_left
      · intro w hSw; go_simp; (try with_reducible rfl)
      (try simp only [Act.put, List.getElem_toArray, List.getElem_cons_zero, List.getElem_cons_succ, List.setIfInBounds_toArray, List.set_cons_zero, List.set_cons_succ])
      refine wpAnyH_take (i := 8) (v := ?_) rfl (by kernel_rfl) (by kernel_rfl) (by kernel_rfl) (fun _ _ _ h => h) (Or.inl ⟨by rfl, ?_⟩) (by assumption) ?_
      rotate_left
      · intro w hSw; go_simp; (try with_reducible rfl)
      (try simp only [Act.put, List.getElem_toArray, List.getElem_cons_zero, List.getElem_cons_succ, List.setIfInBounds_toArray, List.set_cons_zero, List.set_cons_succ])
      refine wpAnyH_take (i := 9) (v := ?_) rfl (by kernel_rfl) (by kernel_rfl) (by kernel_rfl) (fun _ _ _ h => h) (Or.inl ⟨by rfl, ?_⟩) (by assumption) ?_
      rotate_left
      · intro w hSw; go_simp; (try with_reducible rfl)
      (try simp only [Act.put, List.getElem_toArray, List.getElem_cons_zero, List.getElem_cons_succ, List.setIfInBounds_toArray, List.set_cons_zero, List.set_cons_succ])
      refine wpAnyH_take (i := 10) (v := .slice (some ⟨b, if c = k then off else off + k * 1, none⟩) (xs.length - k) (c - k)) rfl (by kernel_rfl) (by kernel_rfl) (by kernel_rfl) (fun _ _ _ h => h) (Or.inl ⟨by rfl, ?_⟩) (by assumption) ?_
      · intro w hSw; go_simp; (try simp [go_sem]); (try rfl); (try (intro hx; exfalso; omega)); (try (split <;> simp))
      (try simp only [Act.put, List.getElem_toArray, List.getElem_cons_zero, List.getElem_cons_succ, List.setIfInBounds_toArray, List.set_cons_zero, List.set_cons_succ])
      refine wpAnyH_ready (rs := [0, 6]) (by kernel_rfl) (by simp) ?_
      refine AllReadyH.cons rfl (fun K hK => ?_) ?_
      · skip
        go_simp
        have oE : OwnF intF (wd.alloc (.cells #[] 3)) P (.slice (some ⟨wd.heap.size, 0, none⟩) 0 0) [] := OwnF.empty intF HX.sz
        replace HX := HX.alloc (.cells #[] 3)
        obtain ⟨e, hq⟩ : ∃ q, wd.heap.size = q := ⟨_, rfl⟩
        rw [hq] at oE ⊢
        obtain ⟨w1, hw⟩ : ∃ v, wd.alloc (.cells #[] 3) = v := ⟨_, rfl⟩
        rw [hw] at HX oE ⊢
        clear hw hq
        refine hK.out _ _ trivial (fun hHeld => ?_)
        clear hK K
        (try simp only [Act.put, List.getElem_toArray, List.getElem_cons_zero, List.setIfInBounds_toArray, List.set_cons_zero, List.set_cons_succ])
        refine wpAnyH_ready (rs := [4, 6]) (by kernel_rfl) (by simp) ?_
        refine AllReadyH.cons rfl (fun K hK => ?_) ?_
        · skip
          refine step_appendF intF rfl w1 (.tmp 33) (.tmp 36) 29 (.int .i64 0) 8 rfl Try.underlying29 info_int rfl (by decide) (by decide) P (.slice (some ⟨e, 0, none⟩) 0 0) ([] : List Int) (xs.take k) b off k c P (by simp [Act.eval]) (by simp [Act.eval]) oE (HX.out.head hk) (by simp; omega) HX.sz ?_
          intro Aoa coa w2 oa hg
          replace HX := HX.grown hg (fun q hq => (oE.bd q hq).1)
          clear hg oE
          obtain ⟨Xoa, hXoa⟩ : ∃ m, ([] : List Int) ++ (xs.take k) = m := ⟨_, rfl⟩
          have hl : (([] : List Int) : List Int).length + (xs.take k).length = Xoa.length := by rw [← hXoa, List.length_append]
          rw [hXoa] at oa
          rw [hl] at oa ⊢
          have noa : Xoa.length ≤ 1000000 := by rw [← hl]; simp; omega
          have HXoa := Lib.hid hXoa
          clear hl hXoa
          refine hK.out _ _ trivial (fun hHeld => ?_)
          clear hK K
          (try simp only [Act.put, List.getElem_toArray, List.getElem_cons_zero, List.getElem_cons_succ, List.setIfInBounds_toArray, List.set_cons_zero, List.set_cons_succ])
          refine wpAnyH_ready (rs := [6]) (by kernel_rfl) (by simp) ?_
          refine AllReadyH.cons rfl (fun K hK => ?_) AllReadyH.nil
          go_simp
          have oL : OwnF intF (w2.alloc (.cells #[.int .i64 x] 3)) P (.slice (some ⟨w2.heap.size, 0, none⟩) 1 1) [x] := OwnF.made intF #[.int .i64 x] [x] HX.sz (by simp [maxLen]) rfl (by intro y hy; cases List.mem_singleton.1 hy; exact HOK.out)
          replace oa := oa.alloc (.cells #[.int .i64 x] 3)
          replace HX := HX.alloc (.cells #[.int .i64 x] 3)
          obtain ⟨l, hq⟩ : ∃ q, w2.heap.size = q := ⟨_, rfl⟩
          rw [hq] at oL ⊢
          obtain ⟨w3, hw⟩ : ∃ v, w2.alloc (.cells #[.int .i64 x] 3) = v := ⟨_, rfl⟩
          rw [hw] at HX oL oa ⊢
          clear hw hq
          refine hK.out _ _ trivial (fun hHeld => ?_)
          clear hK K
          (try simp only [Act.put, List.getElem_toArray, List.getElem_cons_zero, List.getElem_cons_succ, List.setIfInBounds_toArray, List.set_cons_zero, List.set_cons_succ])
          refine wpAnyH_ready (rs := [7]) (by kernel_rfl) (by simp) ?_
          refine AllReadyH.cons rfl (fun K hK => ?_) AllReadyH.nil
          refine step_appendF intF rfl w3 (.tmp 37) (.tmp 39) 29 (.int .i64 0) 8 rfl Try.underlying29 info_int rfl (by decide) (by decide) P (.slice Aoa Xoa.length coa) Xoa [x] l 0 1 1 _ (by simp [Act.eval]) (by simp [Act.eval]) oa oL.rd (by simp; omega) HX.sz ?_
          intro Aob cob wy ob hg
          replace HX := HX.grown hg (fun q hq => (oa.bd q hq).1)
          clear hg oa
          obtain ⟨Xob, hXob⟩ : ∃ m, Xoa ++ [x] = m := ⟨_, rfl⟩
          have hl : (Xoa : List Int).length + [x].length = Xob.length := by rw [← hXob, List.length_append]
          rw [hXob] at ob
          rw [hl] at ob ⊢
          have nob : Xob.length ≤ 1000001 := by rw [← hl]; simp; omega
          have HXob := Lib.hid hXob
          clear hl hXob
          refine hK.out _ _ trivial (fun hHeld => ?_)
          clear hK K
          (try simp only [Act.put, List.getElem_toArray, List.getElem_cons_zero, List.getElem_cons_succ, List.setIfInBounds_toArray, List.set_cons_zero, List.set_cons_succ])
          clear oL
          refine wpAnyH_ready (rs := [11]) (by kernel_rfl) (by simp) ?_
          refine AllReadyH.cons rfl (fun K hK => ?_) AllReadyH.nil
          refine step_appendF intF rfl wy (.tmp 40) (.tmp 43) 29 (.int .i64 0) 8 rfl Try.underlying29 info_int rfl (by decide) (by decide) P (.slice Aob Xob.length cob) Xob (xs.drop k) b (if c = k then off else off + k * 1) (xs.length - k) (c - k) P (by simp [Act.eval]) (by simp [Act.eval]) ob (HX.out.cut hk) (by simp; omega) HX.sz ?_
          intro Aoc coc wz oc hg
          replace HX := HX.grown hg (fun q hq => (ob.bd q hq).1)
          clear hg ob
          obtain ⟨Xoc, hXoc⟩ : ∃ m, Xob ++ (xs.drop k) = m := ⟨_, rfl⟩
          have hl : (Xob : List Int).length + (xs.drop k).length = Xoc.length := by rw [← hXoc, List.length_append]
          rw [hXoc] at oc
          rw [hl] at oc ⊢
          have noc : Xoc.length ≤ 2000001 := by rw [← hl]; simp; omega
          have HXoc := Lib.hid hXoc
          clear hl hXoc
          refine hK.out _ _ trivial (fun hHeld => ?_)
          clear hK K
          (try simp only [Act.put, List.getElem_toArray, List.getElem_cons_zero, List.getElem_cons_succ, List.setIfInBounds_toArray, List.set_cons_zero, List.set_cons_succ])
          refine wpAnyH_take (i := 12) (v := ?_) rfl (by kernel_rfl) (by kernel_rfl) (by kernel_rfl) (fun _ _ _ h => h) (Or.inl ⟨by rfl, ?_⟩) (by assumption) ?_
          rotate_left
          · intro w hSw; go_simp; (try with_reducible rfl)
          (try simp only [Act.put, List.getElem_toArray, List.getElem_cons_zero, List.getElem_cons_succ, List.setIfInBounds_toArray, List.set_cons_zero, List.set_cons_succ])
          refine wpAnyH_done (by kernel_rfl) ?_ _
          refine NoPanic.normal ?_
          obtain ⟨g2, rfl, _, _⟩ := oc.some_ (by rw [← HXoc.out, ← HXob.out]; simp; omega)
          have he : Xoc = putI xs x := by rw [← HXoc.out, ← HXob.out, ← HXoa.out, List.nil_append, HE.out.1, HE.out.2, List.append_assoc]; rfl
          subst he
          have hb := HX.bel
          replace oc := OwnF.toI (oc.mono HX.lo)
          clear HX hHeld
          subst hP
          go_wp2
          all_goals
            go_ret
            exact ⟨g2, _, rfl, oc, hb⟩
        refine AllReadyH.cons rfl (fun K hK => ?_) AllReadyH.nil
        have oE0 := oE
        go_simp
        have oL : OwnF intF (w1.alloc (.cells #[.int .i64 x] 3)) P (.slice (some ⟨w1.heap.size, 0, none⟩) 1 1) [x] := OwnF.made intF #[.int .i64 x] [x] HX.sz (by simp [maxLen]) rfl (by intro y hy; cases List.mem_singleton.1 hy; exact HOK.out)
        replace oE := oE.alloc (.cells #[.int .i64 x] 3)
        have hne : w1.heap.size ≠ e := by have h1 := (oE0.bd e rfl).2; omega
        replace HX := HX.alloc (.cells #[.int .i64 x] 3)
        obtain ⟨l, hq⟩ : ∃ q, w1.heap.size = q := ⟨_, rfl⟩
        rw [hq] at oL hne ⊢
        obtain ⟨w2, hw⟩ : ∃ v, w1.alloc (.cells #[.int .i64 x] 3) = v := ⟨_, rfl⟩
        rw [hw] at HX oL oE ⊢
        clear hw hq
        clear oE0
        refine hK.out _ _ trivial (fun hHeld => ?_)
        clear hK K
        (try simp only [Act.put, List.getElem_toArray, List.getElem_cons_zero, List.getElem_cons_succ, List.setIfInBounds_toArray, List.set_cons_zero, List.set_cons_succ])
        refine wpAnyH_ready (rs := [4]) (by kernel_rfl) (by simp) ?_
        refine AllReadyH.cons rfl (fun K hK => ?_) AllReadyH.nil
        refine step_appendF intF rfl w2 (.tmp 33) (.tmp 36) 29 (.int .i64 0) 8 rfl Try.underlying29 info_int rfl (by decide) (by decide) P (.slice (some ⟨e, 0, none⟩) 0 0) ([] : List Int) (xs.take k) b off k c P (by simp [Act.eval]) (by simp [Act.eval]) oE (HX.out.head hk) (by simp; omega) HX.sz ?_
        intro Aoa coa w3 oa hg
        replace HX := HX.grown hg (fun q hq => (oE.bd q hq).1)
        replace oL := oL.mark hg (fun q q' hq hq' => by cases hq; cases hq'; exact hne.symm)
        clear hg oE
        obtain ⟨Xoa, hXoa⟩ : ∃ m, ([] : List Int) ++ (xs.take k) = m := ⟨_, rfl⟩
        have hl : (([] : List Int) : List Int).length + (xs.take k).length = Xoa.length := by rw [← hXoa, List.length_append]
        rw [hXoa] at oa
        rw [hl] at oa ⊢
        have noa : Xoa.length ≤ 1000000 := by rw [← hl]; simp; omega
        have HXoa := Lib.hid hXoa
        clear hl hXoa
        refine hK.out _ _ trivial (fun hHeld => ?_)
        clear hK K
        (try simp only [Act.put, List.getElem_toArray, List.getElem_cons_zero, List.getElem_cons_succ, List.setIfInBounds_toArray, List.set_cons_zero, List.set_cons_succ])
        refine wpAnyH_ready (rs := [7]) (by kernel_rfl) (by simp) ?_
        refine AllReadyH.cons rfl (fun K hK => ?_) AllReadyH.nil
        refine step_appendF intF rfl w3 (.tmp 37) (.tmp 39) 29 (.int .i64 0) 8 rfl Try.underlying29 info_int rfl (by decide) (by decide) P (.slice Aoa Xoa.length coa) Xoa [x] l 0 1 1 _ (by simp [Act.eval]) (by simp [Act.eval]) oa oL.rd (by simp; omega) HX.sz ?_
        intro Aob cob wy ob hg
        replace HX := HX.grown hg (fun q hq => (oa.bd q hq).1)
        clear hg oa
        obtain ⟨Xob, hXob⟩ : ∃ m, Xoa ++ [x] = m := ⟨_, rfl⟩
        have hl : (Xoa : List Int).length + [x].length = Xob.length := by rw [← hXob, List.length_append]
        rw [hXob] at ob
        rw [hl] at ob ⊢
        have nob : Xob.length ≤ 1000001 := by rw [← hl]; simp; omega
        have HXob := Lib.hid hXob
        clear hl hXob
        refine hK.out _ _ trivial (fun hHeld => ?_)
        clear hK K
        (try simp only [Act.put, List.getElem_toArray, List.getElem_cons_zero, List.getElem_cons_succ, List.setIfInBounds_toArray, List.set_cons_zero, List.set_cons_succ])
        clear oL
        refine wpAnyH_ready (rs := [11]) (by kernel_rfl) (by simp) ?_
        refine AllReadyH.cons rfl (fun K hK => ?_) AllReadyH.nil
        refine step_appendF intF rfl wy (.tmp 40) (.tmp 43) 29 (.int .i64 0) 8 rfl Try.underlying29 info_int rfl (by decide) (by decide) P (.slice Aob Xob.length cob) Xob (xs.drop k) b (if c = k then off else off + k * 1) (xs.length - k) (c - k) P (by simp [Act.eval]) (by simp [Act.eval]) ob (HX.out.cut hk) (by simp; omega) HX.sz ?_
        intro Aoc coc wz oc hg
        replace HX := HX.grown hg (fun q hq => (ob.bd q hq).1)
        clear hg ob
        obtain ⟨Xoc, hXoc⟩ : ∃ m, Xob ++ (xs.drop k) = m := ⟨_, rfl⟩
        have hl : (Xob : List Int).length + (xs.drop k).length = Xoc.length := by rw [← hXoc, List.length_append]
        rw [hXoc] at oc
        rw [hl] at oc ⊢
        have noc : Xoc.length ≤ 2000001 := by rw [← hl]; simp; omega
        have HXoc := Lib.hid hXoc
        clear hl hXoc
        refine hK.out _ _ trivial (fun hHeld => ?_)
        clear hK K
        (try simp only [Act.put, List.getElem_toArray, List.getElem_cons_zero, List.getElem_cons_succ, List.setIfInBounds_toArray, List.set_cons_zero, List.set_cons_succ])
        refine wpAnyH_take (i := 12) (v := ?_) rfl (by kernel_rfl) (by kernel_rfl) (by kernel_rfl) (fun _ _ _ h => h) (Or.inl ⟨by rfl, ?_⟩) (by assumption) ?_
        rotate_left
        · intro w hSw; go_simp; (try with_reducible rfl)
        (try simp only [Act.put, List.getElem_toArray, List.getElem_cons_zero, List.getElem_cons_succ, List.setIfInBounds_toArray, List.set_cons_zero, List.set_cons_succ])
        refine wpAnyH_done (by kernel_rfl) ?_ _
        refine NoPanic.normal ?_
        obtain ⟨g2, rfl, _, _⟩ := oc.some_ (by rw [← HXoc.out, ← HXob.out]; simp; omega)
        have he : Xoc = putI xs x := by rw [← HXoc.out, ← HXob.out, ← HXoa.out, List.nil_append, HE.out.1, HE.out.2, List.append_assoc]; rfl
        subst he
        have hb := HX.bel
        replace oc := OwnF.toI (oc.mono HX.lo)
        clear HX hHeld
        subst hP
        go_wp2
        all_goals
          go_ret
          exact ⟨g2, _, rfl, oc, hb⟩
      refine AllReadyH.cons rfl (fun K hK => ?_) AllReadyH.nil
      go_simp
      have oL : OwnF intF (wd.alloc (.cells #[.int .i64 x] 3)) P (.slice (some ⟨wd.heap.size, 0, none⟩) 1 1) [x] := OwnF.made intF #[.int .i64 x] [x] HX.sz (by simp [maxLen]) rfl (by intro y hy; cases List.mem_singleton.1 hy; exact HOK.out)
      replace HX := HX.alloc (.cells #[.int .i64 x] 3)
      obtain ⟨l, hq⟩ : ∃ q, wd.heap.size = q := ⟨_, rfl⟩
      rw [hq] at oL ⊢
      obtain ⟨w1, hw⟩ : ∃ v, wd.alloc (.cells #[.int .i64 x] 3) = v := ⟨_, rfl⟩
      rw [hw] at HX oL ⊢
      clear hw hq
      refine hK.out _ _ trivial (fun hHeld => ?_)
      clear hK K
      (try simp only [Act.put, List.getElem_toArray, List.getElem_cons_zero, List.getElem_cons_succ, List.setIfInBounds_toArray, List.set_cons_zero, List.set_cons_succ])
      refine wpAnyH_ready (rs := [0]) (by kernel_rfl) (by simp) ?_
      refine AllReadyH.cons rfl (fun K hK => ?_) AllReadyH.nil
      have oL0 := oL
      go_simp
      have oE : OwnF intF (w1.alloc (.cells #[] 3)) P (.slice (some ⟨w1.heap.size, 0, none⟩) 0 0) [] := OwnF.empty intF HX.sz
      replace oL := oL.alloc (.cells #[] 3)
      have hne : w1.heap.size ≠ l := by have h1 := (oL0.bd l rfl).2; omega
      replace HX := HX.alloc (.cells #[] 3)
      obtain ⟨e, hq⟩ : ∃ q, w1.heap.size = q := ⟨_, rfl⟩
      rw [hq] at oE hne ⊢
      obtain ⟨w2, hw⟩ : ∃ v, w1.alloc (.cells #[] 3) = v := ⟨_, rfl⟩
      rw [hw] at HX oE oL ⊢
      clear hw hq
      clear oL0
      refine hK.out _ _ trivial (fun hHeld => ?_)
      clear hK K
      (try simp only [Act.put, List.getElem_toArray, List.getElem_cons_zero, List.setIfInBounds_toArray, List.set_cons_zero, List.set_cons_succ])
      refine wpAnyH_ready (rs := [4]) (by kernel_rfl) (by simp) ?_
      refine AllReadyH.cons rfl (fun K hK => ?_) AllReadyH.nil
      refine step_appendF intF rfl w2 (.tmp 33) (.tmp 36) 29 (.int .i64 0) 8 rfl Try.underlying29 info_int rfl (by decide) (by decide) P (.slice (some ⟨e, 0, none⟩) 0 0) ([] : List Int) (xs.take k) b off k c P (by simp [Act.eval]) (by simp [Act.eval]) oE (HX.out.head hk) (by simp; omega) HX.sz ?_
      intro Aoa coa w3 oa hg
      replace HX := HX.grown hg (fun q hq => (oE.bd q hq).1)
      replace oL := oL.mark hg (fun q q' hq hq' => by cases hq; cases hq'; exact hne)
      clear hg oE
      obtain ⟨Xoa, hXoa⟩ : ∃ m, ([] : List Int) ++ (xs.take k) = m := ⟨_, rfl⟩
      have hl : (([] : List Int) : List Int).length + (xs.take k).length = Xoa.length := by rw [← hXoa, List.length_append]
      rw [hXoa] at oa
      rw [hl] at oa ⊢
      have noa : Xoa.length ≤ 1000000 := by rw [← hl]; simp; omega
      have HXoa := Lib.hid hXoa
      clear hl hXoa
      refine hK.out _ _ trivial (fun hHeld => ?_)
      clear hK K
      (try simp only [Act.put, List.getElem_toArray, List.getElem_cons_zero, List.getElem_cons_succ, List.setIfInBounds_toArray, List.set_cons_zero, List.set_cons_succ])
      refine wpAnyH_ready (rs := [7]) (by kernel_rfl) (by simp) ?_
      refine AllReadyH.cons rfl (fun K hK => ?_) AllReadyH.nil
      refine step_appendF intF rfl w3 (.tmp 37) (.tmp 39) 29 (.int .i64 0) 8 rfl Try.underlying29 info_int rfl (by decide) (by decide) P (.slice Aoa Xoa.length coa) Xoa [x] l 0 1 1 _ (by simp [Act.eval]) (by simp [Act.eval]) oa oL.rd (by simp; omega) HX.sz ?_
      intro Aob cob wy ob hg
      replace HX := HX.grown hg (fun q hq => (oa.bd q hq).1)
      clear hg oa
      obtain ⟨Xob, hXob⟩ : ∃ m, Xoa ++ [x] = m := ⟨_, rfl⟩
      have hl : (Xoa : List Int).length + [x].length = Xob.length := by rw [← hXob, List.length_append]
      rw [hXob] at ob
      rw [hl] at ob ⊢
      have nob : Xob.length ≤ 1000001 := by rw [← hl]; simp; omega
      have HXob := Lib.hid hXob
      clear hl hXob
      refine hK.out _ _ trivial (fun hHeld => ?_)
      clear hK K
      (try simp only [Act.put, List.getElem_toArray, List.getElem_cons_zero, List.getElem_cons_succ, List.setIfInBounds_toArray, List.set_cons_zero, List.set_cons_succ])
      clear oL
      refine wpAnyH_ready (rs := [11]) (by kernel_rfl) (by simp) ?_
      refine AllReadyH.cons rfl (fun K hK => ?_) AllReadyH.nil
      refine step_appendF intF rfl wy (.tmp 40) (.tmp 43) 29 (.int .i64 0) 8 rfl Try.underlying29 info_int rfl (by decide) (by decide) P (.slice Aob Xob.length cob) Xob (xs.drop k) b (if c = k then off else off + k * 1) (xs.length - k) (c - k) P (by simp [Act.eval]) (by simp [Act.eval]) ob (HX.out.cut hk) (by simp; omega) HX.sz ?_
      intro Aoc coc wz oc hg
      replace HX := HX.grown hg (fun q hq => (ob.bd q hq).1)
      clear hg ob
      obtain ⟨Xoc, hXoc⟩ : ∃ m, Xob ++ (xs.drop k) = m := ⟨_, rfl⟩
      have hl : (Xob : List Int).length + (xs.drop k).length = Xoc.length := by rw [← hXoc, List.length_append]
      rw [hXoc] at oc
      rw [hl] at oc ⊢
      have noc : Xoc.length ≤ 2000001 := by rw [← hl]; simp; omega
      have HXoc := Lib.hid hXoc
      clear hl hXoc
      refine hK.out _ _ trivial (fun hHeld => ?_)
      clear hK K
      (try simp only [Act.put, List.getElem_toArray, List.getElem_cons_zero, List.getElem_cons_succ, List.setIfInBounds_toArray, List.set_cons_zero, List.set_cons_succ])
      refine wpAnyH_take (i := 12) (v := ?_) rfl (by kernel_rfl) (by kernel_rfl) (by kernel_rfl) (fun _ _ _ h => h) (Or.inl ⟨by rfl, ?_⟩) (by assumption) ?_
      rotate_left
      · intro w hSw; go_simp; (try with_reducible rfl)
      (try simp only [Act.put, List.getElem_toArray, List.getElem_cons_zero, List.getElem_cons_succ, List.setIfInBounds_toArray, List.set_cons_zero, List.set_cons_succ])
      refine wpAnyH_done (by kernel_rfl) ?_ _
      refine NoPanic.normal ?_
      obtain ⟨g2, rfl, _, _⟩ := oc.some_ (by rw [← HXoc.out, ← HXob.out]; simp; omega)
      have he : Xoc = putI xs x := by rw [← HXoc.out, ← HXob.out, ← HXoa.out, List.nil_append, HE.out.1, HE.out.2, List.append_assoc]; rfl
      subst he
      have hb := HX.bel
      replace oc := OwnF.toI (oc.mono HX.lo)
      clear HX hHeld
      subst hP
      go_wp2
      all_goals
        go_ret
        exact ⟨g2, _, rfl, oc, hb⟩
end Go.Proofs.Ytihhlldpdfihfaa
