/- The walks of the model's l8Ring and l8Put. Condition: a valid chart with a ring, colors. -/
import Derived.Test.YtjfdcmdgpeeabaaRing1
import Derived.Test.YtjfdcmdgpeeabaaFar3
import Derived.Deep.CutRange
namespace Go.Proofs.Ytjfdcmdgpeeabaa
open Go.RowKit

theorem ringL_take {m k n : Nat} {xs : List Int} (hn : n ≤ ringN m k) : ((ringL m k xs).take n).length = n := by rw [List.length_take, ringL_len]; omega
theorem ringL_snoc {m k n : Nat} {xs : List Int} {x : Int} (hn : n < ringN m k) (hp : xs.getD (placeP m k n) 0 = x) : (ringL m k xs).take n ++ [x] = (ringL m k xs).take (n + 1) := by
  have hl : n < (ringL m k xs).length := by rw [ringL_len]; exact hn
  rw [List.take_succ_eq_append_getElem hl, ← getD_at hl, ringL_get hn, hp]
theorem ringL_all {m k n : Nat} {xs : List Int} (hn : n = ringN m k) : (ringL m k xs).take n = ringL m k xs := List.take_of_length_le (by rw [ringL_len]; omega)
theorem ringI_get {m k n : Nat} (hn : n < ringN m k) : (ringI m k).getD n 0 = (placeP m k n : Int) := by
  have hl : n < (ringI m k).length := by rw [ringI_len]; exact hn
  rw [getD_at hl]; simp [ringI]
theorem ringN_bd {m k : Nat} (m2 : 2 ≤ m) (m8 : m ≤ 8) (k2 : 2 ≤ k) (k8 : k ≤ 8) : 4 ≤ ringN m k ∧ ringN m k ≤ 28 := by unfold ringN; omega
set_option maxRecDepth 100000 in
set_option maxHeartbeats 8000000 in
theorem l8Put_any (m k b off cc B b' off' cc' B' : Nat) (xs cs : List Int) (w : World) (hR : Rd w B (some ⟨b, off, none⟩) xs.length cc xs) (hR' : Rd w B' (some ⟨b', off', none⟩) cs.length cc' cs) (hB : B ≤ w.heap.size) (hB' : B' ≤ w.heap.size) (m2 : 2 ≤ m) (m8 : m ≤ 8) (k2 : 2 ≤ k) (k8 : k ≤ 8) (hl : Hid (xs.length = m * k)) (hc1 : 1 ≤ cs.length) :
    Calls Try.prog 36 #[chartV m k (.slice (some ⟨b, off, none⟩) xs.length cc), .slice (some ⟨b', off', none⟩) cs.length cc'] w (OwnChart w m k (putRing m k xs cs)) := by
  have HB := ((Below.refl w.heap.size w).alloc (Nat.le_refl _) (.cells #[.int .i64 m, .int .i64 k, .slice (some ⟨b, off, none⟩) xs.length cc] 26)).alloc (by simp) (.cells #[.int .i64 0, .int .i64 0, .slice none 0 0] 26)
  have x0 := (Blk.new w #[.int .i64 m, .int .i64 k, .slice (some ⟨b, off, none⟩) xs.length cc] 26).alloc (.cells #[.int .i64 0, .int .i64 0, .slice none 0 0] 26)
  have r0 := (Blk.new (w.alloc (.cells #[.int .i64 m, .int .i64 k, .slice (some ⟨b, off, none⟩) xs.length cc] 26)) #[.int .i64 0, .int .i64 0, .slice none 0 0] 26).at_ (q := w.heap.size + 1) (by simp)
  have R := (hR.alloc hB (.cells #[.int .i64 m, .int .i64 k, .slice (some ⟨b, off, none⟩) xs.length cc] 26)).alloc (by simp; omega) (.cells #[.int .i64 0, .int .i64 0, .slice none 0 0] 26)
  have Q := (hR'.alloc hB' (.cells #[.int .i64 m, .int .i64 k, .slice (some ⟨b, off, none⟩) xs.length cc] 26)).alloc (by simp; omega) (.cells #[.int .i64 0, .int .i64 0, .slice none 0 0] 26)
  obtain ⟨N, hN⟩ : ∃ N, ringN m k = N := ⟨_, rfl⟩
  have hN28 := ringN_bd m2 m8 k2 k8
  rw [hN] at hN28
  have HL := Lib.hid (fun n (hn : n < N) => placeP_lt m2 m8 k2 k8 (show n < ringN m k by rw [hN]; exact hn))
  have hx64 : xs.length ≤ 64 := by rw [hl.out]; exact Nat.mul_le_mul m8 k8
  have hx1 : 1 ≤ xs.length := by rw [hl.out]; exact Nat.mul_le_mul (show 1 ≤ m by omega) (show 1 ≤ k by omega)
  clear hR hR'
  go_enter Try.func36, Try.ntmps36
  go_wp2_with fail
  obtain ⟨W0, hW0⟩ : ∃ v, (w.alloc (.cells #[.int .i64 m, .int .i64 k, .slice (some ⟨b, off, none⟩) xs.length cc] 26)).alloc (.cells #[.int .i64 0, .int .i64 0, .slice none 0 0] 26) = v := ⟨_, rfl⟩
  rw [hW0] at HB x0 r0 R Q ⊢
  clear hW0
  have ex0 := x0.cell 0
  have ex1 := x0.cell 1
  have ex2 := x0.cell 2
  go_cut [5, 6] from 5 to 14 (fun s5 s6 wx => ∃ (q g1 c1 g2 c2 : Nat), s5 = .pointer (some ⟨q, 0, none⟩) ∧ s6 = .slice (some ⟨g2, 0, none⟩) N c2 ∧ w.heap.size ≤ q ∧ Own wx w.heap.size (.slice (some ⟨g1, 0, none⟩) xs.length c1) xs ∧ Own wx w.heap.size (.slice (some ⟨g2, 0, none⟩) N c2) (ringI m k) ∧ Blk wx w.heap.size 26 #[.int .i64 m, .int .i64 k, .slice (some ⟨b, off, none⟩) xs.length cc] ∧ Blk wx (w.heap.size + 1) 26 #[.int .i64 0, .int .i64 0, .slice none 0 0] ∧ Rd wx B (some ⟨b, off, none⟩) xs.length cc xs ∧ Rd wx B' (some ⟨b', off', none⟩) cs.length cc' cs ∧ Blk wx q 26 #[.int .i64 m, .int .i64 k, .slice (some ⟨g1, 0, none⟩) xs.length c1] ∧ (∀ z, (Value.slice (some ⟨g1, 0, none⟩) xs.length c1).ownBlock = some z → z ≠ g2) ∧ Below w.heap.size w wx)
  case first =>
    refine' (fun (key1 : Bool → (_ : Prop)) => ?main) ?key1
    case main =>
      refine' (fun (key0 : Bool → (_ : Prop)) => ?main) ?key0
      case main =>
        refine wp_region_noPanic ?_
        refine wp_region_held_drew (S := (fun w' => w'.cell? ⟨w.heap.size, 0, none⟩ = some (.int .i64 m) ∧ w'.cell? ⟨w.heap.size, 1, none⟩ = some (.int .i64 k) ∧ w'.cell? ⟨w.heap.size, 2, none⟩ = some (.slice (some ⟨b, off, none⟩) xs.length cc))) (by kernel_rfl) (by go_keep) (fun hHeld => ?_)
        have HBz := belowD HB
        have x0z : Blk W0.drew _ _ _ := x0.all (low_drewN W0 1)
        have r0z : Blk W0.drew _ _ _ := r0.all (low_drewN W0 1)
        have Rz := R.drew
        have Qz := Q.drew
        obtain ⟨wd, hwd⟩ : ∃ v, W0.drew = v := ⟨_, rfl⟩
        rw [hwd] at hHeld HBz x0z r0z Rz Qz ⊢
        clear hwd
        refine wpAnyH_take (i := 0) (v := ?_) rfl (by kernel_rfl) (by kernel_rfl) (by kernel_rfl) (fun _ _ _ h => h) (Or.inl ⟨by rfl, ?_⟩) (by assumption) ?_
        rotate_left
        · intro w hSw; (try dsimp only at hSw); go_simp; (try with_reducible rfl)
        (try simp only [Act.put, List.getElem_toArray, List.getElem_cons_zero, List.setIfInBounds_toArray, List.set_cons_zero, List.set_cons_succ])
        refine wpAnyH_take (i := 2) (v := ?_) rfl (by kernel_rfl) (by kernel_rfl) (by kernel_rfl) (fun _ _ _ h => h) (Or.inl ⟨by rfl, ?_⟩) (by assumption) ?_
        rotate_left
        · intro w hSw; (try dsimp only at hSw); go_simp; (try with_reducible rfl)
        (try simp only [Act.put, List.getElem_toArray, List.getElem_cons_zero, List.getElem_cons_succ, List.setIfInBounds_toArray, List.set_cons_zero, List.set_cons_succ])
        refine wpAnyH_take (i := 3) (v := ?_) rfl (by kernel_rfl) (by kernel_rfl) (by kernel_rfl) (fun _ _ _ h => h) (Or.inl ⟨by rfl, ?_⟩) (by assumption) ?_
        rotate_left
        · intro w hSw; (try dsimp only at hSw); go_simp; (try with_reducible rfl)
        (try simp only [Act.put, List.getElem_toArray, List.getElem_cons_zero, List.getElem_cons_succ, List.setIfInBounds_toArray, List.set_cons_zero, List.set_cons_succ])
        refine wpAnyH_take (i := 4) (v := ?_) rfl (by kernel_rfl) (by kernel_rfl) (by kernel_rfl) (fun _ _ _ h => h) (Or.inl ⟨by rfl, ?_⟩) (by assumption) ?_
        rotate_left
        · intro w hSw; (try dsimp only at hSw); go_simp; (try with_reducible rfl)
        (try simp only [Act.put, List.getElem_toArray, List.getElem_cons_zero, List.getElem_cons_succ, List.setIfInBounds_toArray, List.set_cons_zero, List.set_cons_succ])
        refine wpAnyH_take (i := 5) (v := ?_) rfl (by kernel_rfl) (by kernel_rfl) (by kernel_rfl) (fun _ _ _ h => h) (Or.inl ⟨by rfl, ?_⟩) (by assumption) ?_
        rotate_left
        · intro w hSw; (try dsimp only at hSw); go_simp; (try with_reducible rfl)
        (try simp only [Act.put, List.getElem_toArray, List.getElem_cons_zero, List.getElem_cons_succ, List.setIfInBounds_toArray, List.set_cons_zero, List.set_cons_succ])
        clear hHeld
        refine wpAnyH_ready (rs := [1, 7]) (by kernel_rfl) (by simp) ?_
        refine AllReadyH.cons rfl (fun K hK => ?_) ?_
        · skip
          go_simp
          refine (l2Own_any m k _ _ cc B xs _ Rz (Nat.le_trans hB HBz.size) (by omega)).mono ?_
          rintro e wq1 ⟨A1, c1, rfl, own, hb⟩
          obtain ⟨g1, rfl, -, -⟩ := own.some_ (by omega)
          replace x0z := x0z.all hb
          replace r0z := r0z.all hb
          replace Rz := Rz.all hb (Nat.le_trans hB HBz.size)
          replace Qz := Qz.all hb (Nat.le_trans hB' HBz.size)
          have O1 := (own).mono HBz.size
          replace HBz := HBz.trans (hb.mono HBz.size)
          clear hb own
          refine hK.out _ _ (by exact ⟨x0z.cell 0, x0z.cell 1, x0z.cell 2⟩) (fun hHeld => ?_)
          clear hK K
          (try simp only [Act.put, List.getElem_toArray, List.getElem_cons_zero, List.getElem_cons_succ, List.setIfInBounds_toArray, List.set_cons_zero, List.set_cons_succ])
          clear hHeld
          refine wpAnyH_ready (rs := [6, 7]) (by kernel_rfl) (by simp) ?_
          refine AllReadyH.cons rfl (fun K hK => ?_) ?_
          · skip
            go_simp
            refine (l8Places_any m k _ m2 m8 k2 k8).mono ?_
            rintro e wq2 ⟨A2, c2, rfl, own, hb⟩
            rw [ringI_len, hN] at own ⊢
            obtain ⟨g2, rfl, -, -⟩ := own.some_ (by rw [ringI_len, hN]; omega)
            have hne2 : ∀ z, (Value.slice (some ⟨g1, 0, none⟩) xs.length c1).ownBlock = some z → z ≠ g2 := fun z hz e => by have h1 := (O1.bd z hz).2; have h2 := (own.bd g2 rfl).1; omega
            replace x0z := x0z.all hb
            replace r0z := r0z.all hb
            replace Rz := Rz.all hb (Nat.le_trans hB HBz.size)
            replace Qz := Qz.all hb (Nat.le_trans hB' HBz.size)
            replace O1 := O1.all hb
            have O2 := (own).mono HBz.size
            replace HBz := HBz.trans (hb.mono HBz.size)
            clear hb own
            refine hK.out _ _ (by exact ⟨x0z.cell 0, x0z.cell 1, x0z.cell 2⟩) (fun hHeld => ?_)
            clear hK K
            (try simp only [Act.put, List.getElem_toArray, List.getElem_cons_zero, List.getElem_cons_succ, List.setIfInBounds_toArray, List.set_cons_zero, List.set_cons_succ])
            clear hHeld
            refine wpAnyH_ready (rs := [7]) (by kernel_rfl) (by simp) ?_
            refine AllReadyH.cons rfl (fun K hK => ?_) AllReadyH.nil
            go_simp
            have hal := (Below.refl wq2.heap.size wq2).alloc (Nat.le_refl _) (.cells #[.int .i64 0, .int .i64 0, .slice none 0 0] 26)
            have hlq7x0 := x0z.lt
            have hlq7r0 := r0z.lt
            replace x0z := x0z.all hal
            replace r0z := r0z.all hal
            replace Rz := Rz.all hal (Nat.le_trans hB HBz.size)
            replace Qz := Qz.all hal (Nat.le_trans hB' HBz.size)
            replace O1 := O1.all hal
            replace O2 := O2.all hal
            have hqq7 : w.heap.size ≤ wq2.heap.size := HBz.size
            have Z7 : Blk _ (wq2.heap.size) _ _ := Blk.new wq2 #[.int .i64 0, .int .i64 0, .slice none 0 0] 26
            replace HBz := HBz.alloc HBz.size (.cells #[.int .i64 0, .int .i64 0, .slice none 0 0] 26)
            obtain ⟨q7, hq⟩ : ∃ q, wq2.heap.size = q := ⟨_, rfl⟩
            rw [hq] at Z7 hlq7x0 hlq7r0 hqq7 ⊢
            obtain ⟨wq3, hw⟩ : ∃ v, wq2.alloc (.cells #[.int .i64 0, .int .i64 0, .slice none 0 0] 26) = v := ⟨_, rfl⟩
            rw [hw] at HBz x0z r0z Rz Qz O1 O2 Z7 ⊢
            clear hal hw hq
            refine hK.out _ _ (by exact ⟨x0z.cell 0, x0z.cell 1, x0z.cell 2⟩) (fun hHeld => ?_)
            clear hK K
            (try simp only [Act.put, List.getElem_toArray, List.getElem_cons_zero, List.getElem_cons_succ, List.setIfInBounds_toArray, List.set_cons_zero, List.set_cons_succ])
            revert hHeld; revert hqq7; revert hne2; revert hlq7x0; revert hlq7r0; revert Z7; revert O2; revert O1; revert Qz; revert Rz; revert r0z; revert x0z; revert HBz; revert q7; revert g2; revert g1; revert c2; revert c1; revert wq3
            exact key1 true
          refine AllReadyH.cons rfl (fun K hK => ?_) AllReadyH.nil
          go_simp
          have hal := (Below.refl wq1.heap.size wq1).alloc (Nat.le_refl _) (.cells #[.int .i64 0, .int .i64 0, .slice none 0 0] 26)
          have hlq7x0 := x0z.lt
          have hlq7r0 := r0z.lt
          replace x0z := x0z.all hal
          replace r0z := r0z.all hal
          replace Rz := Rz.all hal (Nat.le_trans hB HBz.size)
          replace Qz := Qz.all hal (Nat.le_trans hB' HBz.size)
          replace O1 := O1.all hal
          have hqq7 : w.heap.size ≤ wq1.heap.size := HBz.size
          have Z7 : Blk _ (wq1.heap.size) _ _ := Blk.new wq1 #[.int .i64 0, .int .i64 0, .slice none 0 0] 26
          replace HBz := HBz.alloc HBz.size (.cells #[.int .i64 0, .int .i64 0, .slice none 0 0] 26)
          obtain ⟨q7, hq⟩ : ∃ q, wq1.heap.size = q := ⟨_, rfl⟩
          rw [hq] at Z7 hlq7x0 hlq7r0 hqq7 ⊢
          obtain ⟨wq4, hw⟩ : ∃ v, wq1.alloc (.cells #[.int .i64 0, .int .i64 0, .slice none 0 0] 26) = v := ⟨_, rfl⟩
          rw [hw] at HBz x0z r0z Rz Qz O1 Z7 ⊢
          clear hal hw hq
          refine hK.out _ _ (by exact ⟨x0z.cell 0, x0z.cell 1, x0z.cell 2⟩) (fun hHeld => ?_)
          clear hK K
          (try simp only [Act.put, List.getElem_toArray, List.getElem_cons_zero, List.getElem_cons_succ, List.setIfInBounds_toArray, List.set_cons_zero, List.set_cons_succ])
          revert hHeld; revert hqq7; revert hlq7x0; revert hlq7r0; revert Z7; revert O1; revert Qz; revert Rz; revert r0z; revert x0z; revert HBz; revert q7; revert g1; revert c1; revert wq4
          exact key0 true
        refine AllReadyH.cons rfl (fun K hK => ?_) AllReadyH.nil
        go_simp
        have hal := (Below.refl wd.heap.size wd).alloc (Nat.le_refl _) (.cells #[.int .i64 0, .int .i64 0, .slice none 0 0] 26)
        have hlq7x0 := x0z.lt
        have hlq7r0 := r0z.lt
        replace x0z := x0z.all hal
        replace r0z := r0z.all hal
        replace Rz := Rz.all hal (Nat.le_trans hB HBz.size)
        replace Qz := Qz.all hal (Nat.le_trans hB' HBz.size)
        have hqq7 : w.heap.size ≤ wd.heap.size := HBz.size
        have Z7 : Blk _ (wd.heap.size) _ _ := Blk.new wd #[.int .i64 0, .int .i64 0, .slice none 0 0] 26
        replace HBz := HBz.alloc HBz.size (.cells #[.int .i64 0, .int .i64 0, .slice none 0 0] 26)
        obtain ⟨q7, hq⟩ : ∃ q, wd.heap.size = q := ⟨_, rfl⟩
        rw [hq] at Z7 hlq7x0 hlq7r0 hqq7 ⊢
        obtain ⟨wq5, hw⟩ : ∃ v, wd.alloc (.cells #[.int .i64 0, .int .i64 0, .slice none 0 0] 26) = v := ⟨_, rfl⟩
        rw [hw] at HBz x0z r0z Rz Qz Z7 ⊢
        clear hal hw hq
        refine hK.out _ _ (by exact ⟨x0z.cell 0, x0z.cell 1, x0z.cell 2⟩) (fun hHeld => ?_)
        clear hK K
        (try simp only [Act.put, List.getElem_toArray, List.getElem_cons_zero, List.getElem_cons_succ, List.setIfInBounds_toArray, List.set_cons_zero, List.set_cons_succ])
        clear hHeld
        refine wpAnyH_ready (rs := [1]) (by kernel_rfl) (by simp) ?_
        refine AllReadyH.cons rfl (fun K hK => ?_) AllReadyH.nil
        go_simp
        refine (l2Own_any m k _ _ cc B xs _ Rz (Nat.le_trans hB HBz.size) (by omega)).mono ?_
        rintro e wq6 ⟨A1, c1, rfl, own, hb⟩
        obtain ⟨g1, rfl, -, -⟩ := own.some_ (by omega)
        replace x0z := x0z.all hb
        replace r0z := r0z.all hb
        replace Rz := Rz.all hb (Nat.le_trans hB HBz.size)
        replace Qz := Qz.all hb (Nat.le_trans hB' HBz.size)
        replace Z7 := Z7.all hb
        have O1 := (own).mono HBz.size
        replace HBz := HBz.trans (hb.mono HBz.size)
        clear hb own
        refine hK.out _ _ (by exact ⟨x0z.cell 0, x0z.cell 1, x0z.cell 2⟩) (fun hHeld => ?_)
        clear hK K
        (try simp only [Act.put, List.getElem_toArray, List.getElem_cons_zero, List.getElem_cons_succ, List.setIfInBounds_toArray, List.set_cons_zero, List.set_cons_succ])
        revert hHeld; revert hqq7; revert hlq7x0; revert hlq7r0; revert Z7; revert O1; revert Qz; revert Rz; revert r0z; revert x0z; revert HBz; revert q7; revert g1; revert c1; revert wq6
        exact key0 true
      case key0 =>
        intro _ wq4 c1 g1 q7 HBz x0z r0z Rz Qz O1 Z7 hlq7r0 hlq7x0 hqq7 hHeld
        clear hHeld
        refine wpAnyH_ready (rs := [6]) (by kernel_rfl) (by simp) ?_
        refine AllReadyH.cons rfl (fun K hK => ?_) AllReadyH.nil
        go_simp
        refine (l8Places_any m k _ m2 m8 k2 k8).mono ?_
        rintro e wq7 ⟨A2, c2, rfl, own, hb⟩
        rw [ringI_len, hN] at own ⊢
        obtain ⟨g2, rfl, -, -⟩ := own.some_ (by rw [ringI_len, hN]; omega)
        have hne2 : ∀ z, (Value.slice (some ⟨g1, 0, none⟩) xs.length c1).ownBlock = some z → z ≠ g2 := fun z hz e => by have h1 := (O1.bd z hz).2; have h2 := (own.bd g2 rfl).1; omega
        replace x0z := x0z.all hb
        replace r0z := r0z.all hb
        replace Rz := Rz.all hb (Nat.le_trans hB HBz.size)
        replace Qz := Qz.all hb (Nat.le_trans hB' HBz.size)
        replace O1 := O1.all hb
        replace Z7 := Z7.all hb
        have O2 := (own).mono HBz.size
        replace HBz := HBz.trans (hb.mono HBz.size)
        clear hb own
        refine hK.out _ _ (by exact ⟨x0z.cell 0, x0z.cell 1, x0z.cell 2⟩) (fun hHeld => ?_)
        clear hK K
        (try simp only [Act.put, List.getElem_toArray, List.getElem_cons_zero, List.getElem_cons_succ, List.setIfInBounds_toArray, List.set_cons_zero, List.set_cons_succ])
        revert hHeld; revert hqq7; revert hne2; revert hlq7x0; revert hlq7r0; revert Z7; revert O2; revert O1; revert Qz; revert Rz; revert r0z; revert x0z; revert HBz; revert q7; revert g2; revert g1; revert c2; revert c1; revert wq7
        exact key1 true
    case key1 =>
      intro _ wq3 c1 c2 g1 g2 q7 HBz x0z r0z Rz Qz O1 O2 Z7 hlq7r0 hlq7x0 hne2 hqq7 hHeld
      clear hHeld
      refine wpAnyH_ready (rs := [8]) (by kernel_rfl) (by simp) ?_
      refine AllReadyH.cons rfl (fun K hK => ?_) AllReadyH.nil
      have zz0 := Z7.cell 0
      have zz1 := Z7.cell 1
      have zz2 := Z7.cell 2
      have zf0 := Z7.frozen 0
      have zf1 := Z7.frozen 1
      have zf2 := Z7.frozen 2
      go_simp
      replace HBz := below_far3 HBz hqq7 (a := .int .i64 m) (b := .int .i64 k) (c := .slice (some ⟨g1, 0, none⟩) xs.length c1)
      replace x0z := x0z.far3b (p := q7) (a := .int .i64 m) (b := .int .i64 k) (c := .slice (some ⟨g1, 0, none⟩) xs.length c1) (by omega)
      replace r0z := r0z.far3b (p := q7) (a := .int .i64 m) (b := .int .i64 k) (c := .slice (some ⟨g1, 0, none⟩) xs.length c1) (by omega)
      replace Rz := Rz.keep3 (p := q7) (by omega) (a := .int .i64 m) (b := .int .i64 k) (c := .slice (some ⟨g1, 0, none⟩) xs.length c1)
      replace Qz := Qz.keep3 (p := q7) (by omega) (a := .int .i64 m) (b := .int .i64 k) (c := .slice (some ⟨g1, 0, none⟩) xs.length c1)
      replace O1 := O1.far3b (row_ne' O1.1 Z7 (by decide)) (a := .int .i64 m) (b := .int .i64 k) (c := .slice (some ⟨g1, 0, none⟩) xs.length c1)
      replace O2 := O2.far3b (row_ne' O2.1 Z7 (by decide)) (a := .int .i64 m) (b := .int .i64 k) (c := .slice (some ⟨g1, 0, none⟩) xs.length c1)
      replace Z7 : Blk _ _ _ #[.int .i64 m, .int .i64 k, .slice (some ⟨g1, 0, none⟩) xs.length c1] := Z7.put3b
      clear zz0 zf0 zz1 zf1 zz2 zf2
      obtain ⟨wq8, hw⟩ : ∃ v, ((wq3.setCell ⟨q7, 0, none⟩ (.int .i64 m)).setCell ⟨q7, 1, none⟩ (.int .i64 k)).setCell ⟨q7, 2, none⟩ (.slice (some ⟨g1, 0, none⟩) xs.length c1) = v := ⟨_, rfl⟩
      rw [hw] at HBz x0z r0z Rz Qz O1 O2 Z7 ⊢
      clear hw
      refine hK.out _ _ (by exact ⟨x0z.cell 0, x0z.cell 1, x0z.cell 2⟩) (fun hHeld => ?_)
      clear hK K
      (try simp only [Act.put, List.getElem_toArray, List.getElem_cons_zero, List.getElem_cons_succ, List.setIfInBounds_toArray, List.set_cons_zero, List.set_cons_succ])
      refine wpAnyH_take (i := 9) (v := ?_) rfl (by kernel_rfl) (by kernel_rfl) (by kernel_rfl) (fun _ _ _ h => h) (Or.inl ⟨by rfl, ?_⟩) (by assumption) ?_
      rotate_left
      · intro w hSw; (try dsimp only at hSw); go_simp; (try with_reducible rfl)
      (try simp only [Act.put, List.getElem_toArray, List.getElem_cons_zero, List.getElem_cons_succ, List.setIfInBounds_toArray, List.set_cons_zero, List.set_cons_succ])
      refine wpAnyH_done (by kernel_rfl) ?_ _
      refine NoPanic.normal ?_
      go_wp2_with fail
      go_meet
      exact ⟨q7, g1, c1, g2, c2, rfl, rfl, hqq7, O1, O2, x0z, r0z, Rz, Qz, Z7, hne2, HBz⟩
  case rest =>
    clear HB x0 r0 R Q ex0 ex1 ex2
    obtain ⟨q, g1, c1, g2, c2, rfl, rfl, hq, O1, O2, x0, r0, R, Q, Z, hne, HB⟩ := hcut
    have RI := O2.rd
    go_wp2
    go_loopw [7] (fun s7 wr => ∃ (n : Nat), n ≤ N ∧ s7 = .int .i64 n ∧ Own wr w.heap.size (.slice (some ⟨g1, 0, none⟩) xs.length c1) (((ringQ m k).take n).foldl (putF cs) xs) ∧ Own wr w.heap.size (.slice (some ⟨g2, 0, none⟩) N c2) (ringI m k) ∧ Blk wr (w.heap.size + 1) 26 #[.int .i64 0, .int .i64 0, .slice none 0 0] ∧ Rd wr B' (some ⟨b', off', none⟩) cs.length cc' cs ∧ Blk wr q 26 #[.int .i64 m, .int .i64 k, .slice (some ⟨g1, 0, none⟩) xs.length c1] ∧ Hid (Below w.heap.size w wr)) (fun s7 _ => N - (intOf s7).toNat)
    case atStart => exact ⟨0, Nat.zero_le _, rfl, O1, O2, r0, Q, Z, Lib.hid HB⟩
    case round =>
      clear O1 O2 r0 R Q Z RI HB x0
      obtain ⟨n, hn, rfl, O1, O2, r0, Q, Z, HB⟩ := hrel
      have hzw := HB.out.size
      by_cases hlt : n < N
      · have hnr : n < ringN m k := by rw [hN]; exact hlt
        have hp := HL.out n hlt
        obtain ⟨P, hP⟩ : ∃ P, placeP m k n = P := ⟨_, rfl⟩
        rw [hP] at hp
        have HI := Lib.hid (own_at O2 (j := n) (x := (P : Int)) (by rw [ringI_len]; exact hnr) (by rw [ringI_get hnr, hP]))
        have hpc := HI.out
        have hpx : P < xs.length := by rw [hl.out]; exact hp
        have hmod : n % cs.length < cs.length := Nat.mod_lt _ hc1
        obtain ⟨M, hM⟩ : ∃ M, n % cs.length = M := ⟨_, rfl⟩
        rw [hM] at hmod
        obtain ⟨_, _, x, eb, hbB, hxc, hx1', hx2', HX⟩ := Q.at hmod
        cases eb
        have hxx : I64 x := ⟨hx1', hx2'⟩
        have hrem : Int.tmod (n : Int) (cs.length : Int) = (M : Int) := by rw [← hM]; rfl
        have hcs : ¬ cs = [] := fun e => by rw [e] at hc1; simp at hc1
        have e2 := Z.cell 2
        have hzl : (((ringQ m k).take n).foldl (putF cs) xs).length = xs.length := foldl_put_len _ _
        have HS := Lib.hid (show (((ringQ m k).take n).foldl (putF cs) xs).set P x = ((ringQ m k).take (n + 1)).foldl (putF cs) xs by
          rw [ringQ_snoc hnr, List.foldl_append]
          simp only [List.foldl_cons, List.foldl_nil, putF]
          rw [hP, hM, HX.out])
        obtain ⟨old, HO⟩ : ∃ y, Hid ((((ringQ m k).take n).foldl (putF cs) xs).getD P 0 = y) := ⟨_, rfl⟩
        have hold := own_at O1 (by omega) HO.out
        obtain ⟨hfz, o5, hg5⟩ := own_put O1 P x hxx
        rw [HS.out] at o5
        have hg1w := (O1.bd g1 rfl).2
        have hg2w := (O2.bd g2 rfl).2
        have hbw : b' < wr.heap.size := by omega
        have hqw := Z.lt
        have hp0 : (0 : Int) ≤ (P : Int) := by omega
        have hpxi : (P : Int) < (xs.length : Int) := by omega
        have hni : (n : Int) < (N : Int) := by omega
        have hm0 : (0 : Int) ≤ (M : Int) := by omega
        have hmc : (M : Int) < (cs.length : Int) := by omega
        have hne12 : g1 ≠ g2 := hne g1 rfl
        have O25 := O2.mark hg5 (fun z z' hz hz' => by cases hz; cases hz'; exact hne12)
        have r5 := r0.mark hg5 (fun z hz => by cases hz; exact fun e => row_ne' O1.1 r0 (by decide) (by rw [← e]; rfl))
        have Q5 := Q.mark hg5 (fun z hz => by cases hz; exact Nat.le_trans hB' (O1.bd g1 rfl).1) (Nat.le_trans hB' hzw)
        have Z5 := Z.mark hg5 (fun z hz => by cases hz; exact fun e => row_ne' O1.1 Z (by decide) (by rw [← e]; rfl))
        have HB5 := Lib.hid (HB.out.grown hg5 hzw (fun z hz => by cases hz; exact (O1.bd g1 rfl).1))
        clear HX HI hP hM hp hzl HO
        go_wp2
        go_region_law (fail)
        all_goals
          clear HS hpc hxc e2 hold hrem
          go_wp2
          go_roundw
          case rel => exact ⟨n + 1, by omega, by go_num, o5, O25, r5, Q5.drew, Z5, Lib.hid (belowD HB5.out)⟩
          case measure => simp [intOf]; omega
      · obtain rfl : N = n := by omega
        rw [ringQ_all (Nat.le_of_eq hN)] at O1
        have f0 := Z.cell 0
        have f1 := Z.cell 1
        have f2 := Z.cell 2
        have g0' := r0.cell 0
        have g1' := r0.cell 1
        have g2' := r0.cell 2
        have z0 := r0.frozen 0
        have z1 := r0.frozen 1
        have z2 := r0.frozen 2
        have HML := Lib.hid (putRing_len m k xs cs)
        have F := fin3 (p := w.heap.size + 1) (a := .int .i64 m) (b := .int .i64 k) (c := .slice (some ⟨g1, 0, none⟩) xs.length c1) O1 (row_ne' O1.1 r0 (by decide)) HB.out (by omega)
        go_wp2
        exact bodyPost_ret (v := chartV m k (.slice (some ⟨g1, 0, none⟩) xs.length c1)) (by simp [results, Try.results36, go_sem, g0', g1', g2']) rfl ⟨_, c1, by rw [HML.out], by rw [HML.out]; exact F.1, F.2⟩
end Go.Proofs.Ytjfdcmdgpeeabaa
