/- The draw of a recipe. Condition: few draws. -/
import Derived.Test.YtjlidgeeehlkcaaDrawLit
import Derived.Test.YtjlidgeeehlkcaaOf0
import Derived.Test.YtjlidgeeehlkcaaAppF
import Derived.Test.YtjlidgeeehlkcaaStepF
import Derived.Test.YtjlidgeeehlkcaaAddStuff
import Derived.Test.YtjlidgeeehlkcaaDyePartHelp
import Derived.BigQuiet
namespace Go.Proofs.Ytjlidgeeehlkcaa
open Go.RowKit

theorem conv7 (w : World) (x : Int) (h0 : 0 ≤ x) (h1 : x < 256) : ∃ s : ByteArray, s.size = 1 ∧ (convert 22 9 (.slice (some ⟨w.heap.size, 0, none⟩) 1 1)).run Try.prog (w.alloc (.cells #[.int .u8 x] 5)) = .ok (.string s) (w.alloc (.cells #[.int .u8 x] 5)) := by
  obtain ⟨b, hb⟩ : ∃ b : UInt8, x = (b.toNat : Int) := ⟨UInt8.ofNat x.toNat, by simp; omega⟩
  refine ⟨⟨#[b]⟩, rfl, ?_⟩
  rw [hb]
  refine run_convert_bytes_back _ 22 9 5 ⟨w.heap.size, 0, none⟩ 1 [b] Try.underlying22 Try.underlying5 Try.underlying9 fun j hj => ?_
  obtain rfl : j = 0 := by simp at hj; omega
  exact (Blk.new w #[.int .u8 (b.toNat : Int)] 5).cell 0
/-- What a draw of a recipe leaves. -/
def DrewRecipe (w : World) (p k : Nat) (e : Ending) (w' : World) : Prop := ∃ (A : Option Addr) (c : Nat) (xs : List DyePartR), e = .returned (.slice A xs.length c) ∧ xs.length ≤ 8 ∧ OwnF dyePartF w' w.heap.size (.slice A xs.length c) xs ∧ Cur w' p k ∧ w.grownBy w' (some p)
set_option maxRecDepth 100000 in
set_option maxHeartbeats 16000000 in
theorem recipe_any (p k : Nat) (w : World) (h : Cur w p k) (hk : k + 1000 ≤ 4294967296) : Calls Try.prog 34 #[.pointer (some ⟨p, 0, none⟩)] w (DrewRecipe w p (k + 1000)) := by
  have hpw := h.lt
  have hb0 : Below w.heap.size w (w.alloc (.cells #[] 43)) := (Below.refl _ _).alloc (Nat.le_refl _) _
  have hb1 := (Below.refl (w.alloc (.cells #[] 43)).heap.size (w.alloc (.cells #[] 43))).alloc (Nat.le_refl _) (.cells #[.string ⟨#[97, 108, 117, 109]⟩, .string ⟨#[105, 110, 100, 105, 103, 111]⟩, .string ⟨#[108, 105, 109, 101]⟩, .string ⟨#[109, 97, 100, 100, 101, 114]⟩, .string ⟨#[119, 101, 108, 100]⟩] 9)
  have hN1 : Blk ((w.alloc (.cells #[] 43)).alloc (.cells #[.string ⟨#[97, 108, 117, 109]⟩, .string ⟨#[105, 110, 100, 105, 103, 111]⟩, .string ⟨#[108, 105, 109, 101]⟩, .string ⟨#[109, 97, 100, 100, 101, 114]⟩, .string ⟨#[119, 101, 108, 100]⟩] 9)) (w.heap.size + 1) 9 #[.string ⟨#[97, 108, 117, 109]⟩, .string ⟨#[105, 110, 100, 105, 103, 111]⟩, .string ⟨#[108, 105, 109, 101]⟩, .string ⟨#[109, 97, 100, 100, 101, 114]⟩, .string ⟨#[119, 101, 108, 100]⟩] := by
    have := Blk.new (w.alloc (.cells #[] 43)) #[.string ⟨#[97, 108, 117, 109]⟩, .string ⟨#[105, 110, 100, 105, 103, 111]⟩, .string ⟨#[108, 105, 109, 101]⟩, .string ⟨#[109, 97, 100, 100, 101, 114]⟩, .string ⟨#[119, 101, 108, 100]⟩] 9
    rwa [show (w.alloc (.cells #[] 43)).heap.size = w.heap.size + 1 by simp] at this
  have hc1 := (h.all hb0).all hb1
  have ho1 : OwnF dyePartF ((w.alloc (.cells #[] 43)).alloc (.cells #[.string ⟨#[97, 108, 117, 109]⟩, .string ⟨#[105, 110, 100, 105, 103, 111]⟩, .string ⟨#[108, 105, 109, 101]⟩, .string ⟨#[109, 97, 100, 100, 101, 114]⟩, .string ⟨#[119, 101, 108, 100]⟩] 9)) w.heap.size (.slice (some ⟨w.heap.size, 0, none⟩) 0 0) [] := (OwnF.empty dyePartF (w := w) (Nat.le_refl _)).all hb1
  have HG1 := Lib.hid (grown_trans (below_grown (row := some p) hb0) (below_grown (row := some p) hb1))
  clear h hb0 hb1
  go_enter Try.func34, Try.ntmps34
  go_wp2
  go_loopw [3, 5] (fun out ii wr => ∃ (A : Option Addr) (c : Nat) (xs : List DyePartR) (i : Nat), out = .slice A xs.length c ∧ ii = .int .i64 (i : Int) ∧ i ≤ 5 ∧ xs.length ≤ i ∧ OwnF dyePartF wr w.heap.size (.slice A xs.length c) xs ∧ Blk wr (w.heap.size + 1) 9 #[.string ⟨#[97, 108, 117, 109]⟩, .string ⟨#[105, 110, 100, 105, 103, 111]⟩, .string ⟨#[108, 105, 109, 101]⟩, .string ⟨#[109, 97, 100, 100, 101, 114]⟩, .string ⟨#[119, 101, 108, 100]⟩] ∧ Cur wr p (k + 10 * i) ∧ Hid (w.grownBy wr (some p))) (fun _ ii _ => 5 - (intOf ii).toNat)
  case atStart => exact ⟨some ⟨w.heap.size, 0, none⟩, 0, [], 0, rfl, rfl, by omega, by simp, ho1, hN1, hc1.more (by omega), HG1⟩
  case round =>
    obtain ⟨A, c, xs, i, rfl, rfl, hi, hx, ho, hN, hc, HGr⟩ := hrel
    have hbd := fun q hq => (ho.bd q hq).1
    have hzr := HGr.out.size
    clear ho1 hN1 hc1 HG1
    by_cases hlt : i < 5
    · have hi5 : (i : Int) < (5 : Int) := by omega
      go_wp2_with fail
      refine (one_any p _ 2 _ hc (by omega) (by omega) (by omega)).mono ?_
      rintro e w2 ⟨d, rfl, hc2, hg2⟩
      have ho2 := ho.mark hg2 (fun z z' hz hz' => by cases hz; have := hbd z' hz'; omega)
      have hN2 := hN.mark hg2 (fun z hz => by cases hz; omega)
      have HG2 := Lib.hid (grown_trans HGr.out hg2)
      clear ho hN hc HGr hg2 hzr
      cases d with
      | true =>
        obtain ⟨nm, hnm, hsz⟩ : ∃ nm : ByteArray, (∀ w', Blk w' (w.heap.size + 1) 9 #[.string ⟨#[97, 108, 117, 109]⟩, .string ⟨#[105, 110, 100, 105, 103, 111]⟩, .string ⟨#[108, 105, 109, 101]⟩, .string ⟨#[109, 97, 100, 100, 101, 114]⟩, .string ⟨#[119, 101, 108, 100]⟩] → w'.cell? ⟨w.heap.size + 1, i, none⟩ = some (.string nm)) ∧ nm.size ≤ 20 := by
          rcases (show i = 0 ∨ i = 1 ∨ i = 2 ∨ i = 3 ∨ i = 4 by omega) with rfl | rfl | rfl | rfl | rfl
          · exact ⟨⟨#[97, 108, 117, 109]⟩, fun w' h => h.cell 0, by decide⟩
          · exact ⟨⟨#[105, 110, 100, 105, 103, 111]⟩, fun w' h => h.cell 1, by decide⟩
          · exact ⟨⟨#[108, 105, 109, 101]⟩, fun w' h => h.cell 2, by decide⟩
          · exact ⟨⟨#[109, 97, 100, 100, 101, 114]⟩, fun w' h => h.cell 3, by decide⟩
          · exact ⟨⟨#[119, 101, 108, 100]⟩, fun w' h => h.cell 4, by decide⟩
        go_wp2
        have hod := ho2.drewN 1
        have hNd := hN2.all (low_drewN w2 1)
        have hcd := cur_drew hc2
        have HGd := Lib.hid (grown_trans HG2.out (drew_grown _ _))
        clear ho2 hc2 HG2
        refine wp_region_noPanic ?_
        refine wp_region_held_drew (S := fun w' => w'.cell? ⟨w.heap.size + 1, i, none⟩ = some (.string nm)) (by kernel_rfl) (by exact hnm _ hNd) (fun hHeld => ?_)
        replace hod : OwnF dyePartF w2.drew _ _ _ := hod
        replace hNd : Blk w2.drew _ _ _ := hNd
        clear hN2
        obtain ⟨wd, hwd⟩ : ∃ v, w2.drew = v := ⟨_, rfl⟩
        unfold Hid at HGd
        rw [hwd] at hHeld hod hNd hcd HGd ⊢
        replace HGd := Lib.hid HGd
        clear hwd
        refine wpAnyH_take (i := 0) (v := ?_) rfl (by kernel_rfl) (by kernel_rfl) (by kernel_rfl) (fun _ _ _ h => h) (Or.inl ⟨by rfl, ?_⟩) (by assumption) ?_
        rotate_left
        · intro w hSw; (try dsimp only at hSw); go_simp; (try with_reducible rfl)
        (try simp only [Act.put, List.getElem_toArray, List.getElem_cons_zero, List.setIfInBounds_toArray, List.set_cons_zero, List.set_cons_succ])
        refine wpAnyH_take (i := 1) (v := ?_) rfl (by kernel_rfl) (by kernel_rfl) (by kernel_rfl) (fun _ _ _ h => h) (Or.inl ⟨by rfl, ?_⟩) (by assumption) ?_
        rotate_left
        · intro w hSw; (try dsimp only at hSw); go_simp; (try with_reducible rfl)
        (try simp only [Act.put, List.getElem_toArray, List.getElem_cons_zero, List.getElem_cons_succ, List.setIfInBounds_toArray, List.set_cons_zero, List.set_cons_succ])
        refine wpAnyH_take (i := 2) (v := ?_) rfl (by kernel_rfl) (by kernel_rfl) (by kernel_rfl) (fun _ _ _ h => h) (Or.inl ⟨by rfl, ?_⟩) (by assumption) ?_
        rotate_left
        · intro w hSw; (try dsimp only at hSw); go_simp; (try with_reducible rfl)
        (try simp only [Act.put, List.getElem_toArray, List.getElem_cons_zero, List.getElem_cons_succ, List.setIfInBounds_toArray, List.set_cons_zero, List.set_cons_succ])
        refine wpAnyH_take (i := 3) (v := ?_) rfl (by kernel_rfl) (by kernel_rfl) (by kernel_rfl) (fun _ _ _ h => h) (Or.inl ⟨by rfl, ?_⟩) (by assumption) ?_
        rotate_left
        · intro w hSw; (try dsimp only at hSw); go_simp; (try with_reducible rfl)
        (try simp only [Act.put, List.getElem_toArray, List.getElem_cons_zero, List.getElem_cons_succ, List.setIfInBounds_toArray, List.set_cons_zero, List.set_cons_succ])
        refine wpAnyH_take (i := 4) (v := ?_) rfl (by kernel_rfl) (by kernel_rfl) (by kernel_rfl) (fun _ _ _ h => h) (Or.inl ⟨by rfl, ?_⟩) (by assumption) ?_
        rotate_left
        · intro w hSw; (try dsimp only at hSw); go_simp; (try with_reducible rfl)
        (try simp only [Act.put, List.getElem_toArray, List.getElem_cons_zero, List.getElem_cons_succ, List.setIfInBounds_toArray, List.set_cons_zero, List.set_cons_succ])
        refine wpAnyH_take (i := 5) (v := ?_) rfl (by kernel_rfl) (by kernel_rfl) (by kernel_rfl) (fun _ _ _ h => h) (Or.inl ⟨by rfl, ?_⟩) (by assumption) ?_
        rotate_left
        · intro w hSw; (try dsimp only at hSw); go_simp; (try with_reducible rfl)
        (try simp only [Act.put, List.getElem_toArray, List.getElem_cons_zero, List.getElem_cons_succ, List.setIfInBounds_toArray, List.set_cons_zero, List.set_cons_succ])
        refine wpAnyH_ready (rs := [6]) (by kernel_rfl) (by simp) ?_
        refine AllReadyH.cons rfl (fun K hK => ?_) AllReadyH.nil
        go_simp
        have hN3 := hNd.all ((Below.refl wd.heap.size wd).alloc (Nat.le_refl _) (.cells #[.int .i64 1, .int .i64 50, .int .i64 333, .int .i64 1000] 3))
        refine hK.out _ _ (by exact hnm _ hN3) (fun hHeld => ?_)
        clear hK K
        (try simp only [Act.put, List.getElem_toArray, List.getElem_cons_zero, List.getElem_cons_succ, List.setIfInBounds_toArray, List.set_cons_zero, List.set_cons_succ])
        clear hN3
        refine wpAnyH_ready (rs := [7]) (by kernel_rfl) (by simp) ?_
        refine AllReadyH.cons rfl (fun K hK => ?_) AllReadyH.nil
        go_simp
        refine (among5 p _ wd.heap.size 4 [1, 50, 333, 1000] wd rfl rfl hcd (by omega) (by decide) (by decide) (i64_lit (by decide))).mono ?_
        rintro e w3 ⟨y, rfl, hy, hc3, hg3⟩
        replace hy := i64_lit (l := [1, 50, 333, 1000]) (by decide) y hy
        have ho3 := hod.mark hg3 (fun z z' hz hz' => by cases hz; have := hbd z' hz'; omega)
        have hN3 := hNd.mark hg3 (fun z hz => by cases hz; omega)
        have HG3 := Lib.hid (grown_trans HGd.out hg3)
        clear hod hNd hcd HGd hg3
        refine hK.out _ _ (by exact hnm _ hN3) (fun hHeld => ?_)
        clear hK K
        (try simp only [Act.put, List.getElem_toArray, List.getElem_cons_zero, List.getElem_cons_succ, List.setIfInBounds_toArray, List.set_cons_zero, List.set_cons_succ])
        refine wpAnyH_take (i := 8) (v := ?_) rfl (by kernel_rfl) (by kernel_rfl) (by kernel_rfl) (fun _ _ _ h => h) (Or.inl ⟨by rfl, ?_⟩) (by assumption) ?_
        rotate_left
        · intro w hSw; (try dsimp only at hSw); go_simp; (try with_reducible rfl)
        (try simp only [Act.put, List.getElem_toArray, List.getElem_cons_zero, List.getElem_cons_succ, List.setIfInBounds_toArray, List.set_cons_zero, List.set_cons_succ])
        refine wpAnyH_ready (rs := [9]) (by kernel_rfl) (by simp) ?_
        refine AllReadyH.cons rfl (fun K hK => ?_) AllReadyH.nil
        go_simp
        have hb4 := (Below.refl w3.heap.size w3).alloc (Nat.le_refl _) (.cells #[.string nm, .int .i64 y] 43)
        have ho4 := ho3.all hb4
        have hN4 := hN3.all hb4
        have hc4 := hc3.all hb4
        have HG4 := Lib.hid (grown_trans HG3.out (below_grown (row := some p) hb4))
        have hz4 := HG4.out.size
        have hr := RdF.lit (F := dyePartF) (w := w3) (cs := #[.string nm, .int .i64 y]) (a := ⟨nm, y⟩) rfl ⟨by show nm.size ≤ maxLen; unfold maxLen; omega, hy⟩
        clear ho3 hN3 hc3 HG3 hb4
        refine hK.out _ _ (by exact hnm _ hN4) (fun hHeld => ?_)
        clear hK K
        (try simp only [Act.put, List.getElem_toArray, List.getElem_cons_zero, List.getElem_cons_succ, List.setIfInBounds_toArray, List.set_cons_zero, List.set_cons_succ])
        refine wpAnyH_ready (rs := [10]) (by kernel_rfl) (by simp) ?_
        refine AllReadyH.cons rfl (fun K hK => ?_) AllReadyH.nil
        refine step_appendF dyePartF rfl _ (.tmp 19) (.tmp 28) 24 (.agg #[.string ⟨#[]⟩, .int .i64 0]) 24 rfl Try.underlying24 info_DyePart rfl (by decide) (by decide) w.heap.size (.slice A xs.length c) xs [⟨nm, y⟩] w3.heap.size 0 1 1 _ (by simp [Act.eval]) (by simp [Act.eval]) ho4 hr (by simp; omega) (by omega) ?_
        intro A6 c6 w6 ho6 hg6
        have hN6 := hN4.mark hg6 (row_ne ho4.1 hN4 (by decide))
        have hc6 := hc4.mark hg6 (fun z hz => by have := hbd z hz; omega)
        have HG6 := Lib.hid (grown_far HG4.out hg6 hbd)
        clear ho4 hN4 hc4 HG4 hg6 hr
        refine hK.out _ _ (by exact hnm _ hN6) (fun hHeld => ?_)
        clear hK K
        (try simp only [Act.put, List.getElem_toArray, List.getElem_cons_zero, List.getElem_cons_succ, List.setIfInBounds_toArray, List.set_cons_zero, List.set_cons_succ])
        refine wpAnyH_take (i := 11) (v := ?_) rfl (by kernel_rfl) (by kernel_rfl) (by kernel_rfl) (fun _ _ _ h => h) (Or.inl ⟨by rfl, ?_⟩) (by assumption) ?_
        rotate_left
        · intro w hSw; (try dsimp only at hSw); go_simp; (try with_reducible rfl)
        (try simp only [Act.put, List.getElem_toArray, List.getElem_cons_zero, List.getElem_cons_succ, List.setIfInBounds_toArray, List.set_cons_zero, List.set_cons_succ])
        refine wpAnyH_done (by kernel_rfl) ?_ _
        refine NoPanic.normal ?_
        go_wp2
        go_roundw
        case rel => exact ⟨A6, c6, xs ++ [⟨nm, y⟩], i + 1, by rw [List.length_append]; rfl, by go_num, by omega, by rw [List.length_append]; simp; omega, by rw [List.length_append]; exact ho6, hN6, hc6.more (by omega), HG6⟩
        case measure => simp [intOf]; omega
      | false =>
        go_wp2
        go_roundw
        case rel => exact ⟨A, c, xs, i + 1, rfl, by go_num, by omega, by omega, ho2, hN2, hc2.more (by omega), HG2⟩
        case measure => simp [intOf]; omega
    · obtain rfl : i = 5 := by omega
      replace hc := hc.more (show _ ≤ k + 50 by omega)
      clear hN hlt
      by_cases hx0 : xs.length = 0
      · obtain rfl : xs = [] := List.length_eq_zero_iff.1 hx0
        clear hx0
        go_wp2_with fail
        refine (one_any p _ 6 _ hc (by omega) (by omega) (by omega)).mono ?_
        rintro e w2 ⟨d, rfl, hc2, hg2⟩
        have ho2 := ho.mark hg2 (fun z z' hz hz' => by cases hz; have := hbd z' hz'; omega)
        have HG2 := Lib.hid (grown_trans HGr.out hg2)
        clear ho hc HGr hg2
        cases d with
        | true =>
          go_wp2
          go_ret
          exact ⟨A, c, [], rfl, by simp, ho2, hc2.more (by omega), HG2.out⟩
        | false =>
          have hz2 := HG2.out.size
          have hb4 := (Below.refl w2.heap.size w2).alloc (Nat.le_refl _) (.cells #[.string ⟨#[97, 108, 117, 109]⟩, .int .i64 100] 43)
          have ho4 := ho2.all hb4
          have hc4 := hc2.all hb4
          have HG4 := Lib.hid (grown_trans HG2.out (below_grown (row := some p) hb4))
          obtain ⟨zs, hzs⟩ : ∃ zs : List DyePartR, zs = [⟨⟨#[97, 108, 117, 109]⟩, 100⟩] := ⟨_, rfl⟩
          have hr := RdF.lit (F := dyePartF) (w := w2) (cs := #[.string ⟨#[97, 108, 117, 109]⟩, .int .i64 100]) (a := ⟨⟨#[97, 108, 117, 109]⟩, 100⟩) rfl ⟨by show (4 : Nat) ≤ maxLen; unfold maxLen; omega, i64_small5 (by decide) (by decide)⟩
          rw [← hzs] at hr
          have hx5 : zs.length ≤ 5 := by rw [hzs]; simp
          have hx1 : 1 ≤ zs.length := by rw [hzs]; simp
          clear hzs
          clear ho2 hc2 HG2 hb4
          go_wp2_with (refine wpList_appendF dyePartF rfl _ (.tmp 38) (.tmp 40) 24 (.agg #[.string ⟨#[]⟩, .int .i64 0]) 24 rfl Try.underlying24 info_DyePart rfl (by decide) (by decide) w.heap.size _ [] zs w2.heap.size 0 1 1 (w2.heap.size + 1) rfl rfl ho4 hr (by simp; omega) (by simp; omega) ?_)
          intro A6 c6 w7 ho hg6
          (try simp only [List.length_nil, Nat.zero_add, List.nil_append] at ho ⊢)
          have hc := (hc4.mark hg6 (fun z hz => by have := hbd z hz; omega)).more (show _ ≤ k + 60 by omega)
          have HGr := Lib.hid (grown_far HG4.out hg6 hbd)
          clear hc4 ho4 HG4 hg6 hr hbd hx hi
          have hbd := fun q hq => (ho.bd q hq).1
          have hn0 : ((zs.length : Int) == 0) = false := beq_eq_false_iff_ne.2 (by omega)
          go_wp2_with fail
          refine (pick_any p _ (zs.length : Int) _ hc (by omega) (by omega) (by omega)).mono ?_
          rintro e w3 ⟨x, rfl, ⟨x0, x1⟩, hc3, hg3⟩
          have ho3 := ho.mark hg3 (fun z z' hz hz' => by cases hz; have := hbd z' hz'; omega)
          have HG3 := Lib.hid (grown_trans HGr.out hg3)
          have hw3 := HG3.out.size
          obtain ⟨j, rfl⟩ := Int.eq_ofNat_of_zero_le x0
          have hj : j < zs.length := by omega
          have hji : (j : Int) < (zs.length : Int) := by omega
          clear ho hc HGr hg3 x0 x1
          obtain ⟨g, rfl, hg1, hg2⟩ := ho3.some_ (by omega)
          obtain ⟨b, off, a, hA, hbB, ok, HX, hd0, hd1⟩ := DyePartR_at (F := dyePartF) rfl (fun _ => rfl) (fun _ => rfl) ho3.rd hj
          cases hA
          rw [Nat.zero_add] at hd0 hd1
          have hb4 := (Below.refl w3.heap.size w3).alloc (Nat.le_refl _) (.cells #[.string a.f0, .int .i64 a.f1] 43)
          have r4 := Blk.new w3 #[.string a.f0, .int .i64 a.f1] 43
          have ho4 := ho3.all hb4
          have hc4 := hc3.all hb4
          have HG4 := Lib.hid (grown_trans HG3.out (below_grown (row := some p) hb4))
          have hp3 := hc3.lt
          clear hb4 ho3 HG3 hc3
          go_wp2_with fail
          refine (pick_any p _ 40 _ hc4 (by omega) (by omega) (by omega)).mono ?_
          rintro e w4 ⟨x, rfl, ⟨x0, x1⟩, hc5, hg4⟩
          have ho5 := ho4.mark hg4 (fun z z' hz hz' => by cases hz; have := hbd z' hz'; omega)
          have r5 := r4.mark hg4 (fun z hz => by cases hz; omega)
          have HG5 := Lib.hid (grown_trans HG4.out hg4)
          clear ho4 r4 hc4 HG4 hg4 hd0 hd1
          by_cases hx0 : x = 0
          · subst hx0
            have u0 := r5.cell 0
            have u1 := r5.cell 1
            go_wp2_with fail
            refine (of_lit p _ w4.heap.size 3 [⟨#[]⟩, ⟨#[65]⟩, ⟨#[122, 105, 110, 99]⟩] w4 rfl rfl hc5 (by omega) (by decide) (by decide) (by decide)).mono ?_
            rintro e w6 ⟨y9, rfl, hy8, hc6, hg6⟩
            have hy9 : y9.size ≤ 20 := (show ∀ x ∈ ([⟨#[]⟩, ⟨#[65]⟩, ⟨#[122, 105, 110, 99]⟩] : List ByteArray), x.size ≤ 20 by decide) y9 hy8
            have ho6 := ho5.mark hg6 (fun z z' hz hz' => by cases hz; have := hbd z' hz'; omega)
            have r6 := r5.mark hg6 (fun z hz => by cases hz; omega)
            have HG6 := Lib.hid (grown_trans HG5.out hg6)
            clear ho5 r5 hc5 HG5 hg6 u0 u1 hy8
            have u0 := r6.cell 0
            have g0 := r6.frozen 0
            have u1 := r6.cell 1
            have g1 := r6.frozen 1
            obtain ⟨y0, hy0⟩ := ho6.there (j := j) (i := 0) hj (by decide)
            have hf0 : w6.frozen? ⟨g, j * 2, none⟩ = false := ho6.frozen _
            replace hy0 : w6.cell? ⟨g, j * 2, none⟩ = some y0 := hy0
            obtain ⟨y1, hy1⟩ := ho6.there (j := j) (i := 1) hj (by decide)
            have hf1 : w6.frozen? ⟨g, j * 2 + 1, none⟩ = false := ho6.frozen _
            replace hy1 : w6.cell? ⟨g, j * 2 + 1, none⟩ = some y1 := hy1
            have hoF := ho6.far (a := ⟨w3.heap.size, 0, none⟩) (by simp [Value.ownBlock]; omega) (.string y9)
            have hcF := cur_set (a := ⟨w3.heap.size, 0, none⟩) hc6 hp3 (.string y9)
            have HGF := grown_set (a := ⟨w3.heap.size, 0, none⟩) HG6.out hw3 (.string y9)
            have HP := Lib.hid (hoF.put (j := j) hj (⟨y9, a.f1⟩ : DyePartR) ⟨by show ByteArray.size (y9) ≤ maxLen; first | exact ok.1 | (unfold maxLen; omega), by show I64 (a.f1); first | exact ok.2 | assumption⟩)
            replace hcF := Lib.hid (hcF.mark HP.out.2 (fun z hz => by cases hz; omega))
            replace HGF := Lib.hid (grown_far HGF HP.out.2 (fun z hz => by cases hz; omega))
            clear HG6 hoF hc6
            go_wp2
            go_ret
            exact ⟨some ⟨g, 0, none⟩, c6, zs.set j ⟨y9, a.f1⟩, by rw [List.length_set]; rfl, by rw [List.length_set]; omega, by rw [List.length_set]; exact HP.out.1, hcF.out.more (by omega), HGF.out⟩
          by_cases hx1 : x = 1
          · subst hx1
            clear hx0
            have u0 := r5.cell 0
            have u1 := r5.cell 1
            go_wp2_with fail
            refine (among5 p _ w4.heap.size 2 [0, 1001] w4 rfl rfl hc5 (by omega) (by decide) (by decide) (i64_lit (by decide))).mono ?_
            rintro e w6 ⟨y9, rfl, hy8, hc6, hg6⟩
            have hy9 := i64_lit (l := [0, 1001]) (by decide) y9 hy8
            have ho6 := ho5.mark hg6 (fun z z' hz hz' => by cases hz; have := hbd z' hz'; omega)
            have r6 := r5.mark hg6 (fun z hz => by cases hz; omega)
            have HG6 := Lib.hid (grown_trans HG5.out hg6)
            clear ho5 r5 hc5 HG5 hg6 u0 u1 hy8
            have u0 := r6.cell 0
            have g0 := r6.frozen 0
            have u1 := r6.cell 1
            have g1 := r6.frozen 1
            obtain ⟨y0, hy0⟩ := ho6.there (j := j) (i := 0) hj (by decide)
            have hf0 : w6.frozen? ⟨g, j * 2, none⟩ = false := ho6.frozen _
            replace hy0 : w6.cell? ⟨g, j * 2, none⟩ = some y0 := hy0
            obtain ⟨y1, hy1⟩ := ho6.there (j := j) (i := 1) hj (by decide)
            have hf1 : w6.frozen? ⟨g, j * 2 + 1, none⟩ = false := ho6.frozen _
            replace hy1 : w6.cell? ⟨g, j * 2 + 1, none⟩ = some y1 := hy1
            have hoF := ho6.far (a := ⟨w3.heap.size, 1, none⟩) (by simp [Value.ownBlock]; omega) (.int .i64 y9)
            have hcF := cur_set (a := ⟨w3.heap.size, 1, none⟩) hc6 hp3 (.int .i64 y9)
            have HGF := grown_set (a := ⟨w3.heap.size, 1, none⟩) HG6.out hw3 (.int .i64 y9)
            have HP := Lib.hid (hoF.put (j := j) hj (⟨a.f0, y9⟩ : DyePartR) ⟨by show ByteArray.size (a.f0) ≤ maxLen; first | exact ok.1 | (unfold maxLen; omega), by show I64 (y9); first | exact ok.2 | assumption⟩)
            replace hcF := Lib.hid (hcF.mark HP.out.2 (fun z hz => by cases hz; omega))
            replace HGF := Lib.hid (grown_far HGF HP.out.2 (fun z hz => by cases hz; omega))
            clear HG6 hoF hc6
            go_wp2
            go_ret
            exact ⟨some ⟨g, 0, none⟩, c6, zs.set j ⟨a.f0, y9⟩, by rw [List.length_set]; rfl, by rw [List.length_set]; omega, by rw [List.length_set]; exact HP.out.1, hcF.out.more (by omega), HGF.out⟩
          by_cases hx2 : x = 2
          · subst hx2
            clear hx0 hx1 r5
            have hz5 := HG5.out.size
            have hbE := (Below.refl w4.heap.size w4).alloc (Nat.le_refl _) (.cells #[] 43)
            have oN : OwnF dyePartF (w4.alloc (.cells #[] 43)) w.heap.size (.slice (some ⟨w4.heap.size, 0, none⟩) 0 0) [] := OwnF.empty dyePartF (w := w4) hz5
            have hc6 := hc5.all hbE
            have HG6 := Lib.hid (grown_trans HG5.out (below_grown (row := some p) hbE))
            clear ho5 hc5 HG5 hbE hbd
            go_wp2
            go_loopw [3, 8] (fun out ii wr => ∃ (A : Option Addr) (c : Nat) (xs : List DyePartR), out = .slice A xs.length c ∧ ii = .int .i64 (xs.length : Int) ∧ xs.length ≤ 7 ∧ OwnF dyePartF wr w.heap.size (.slice A xs.length c) xs ∧ Cur wr p (k + 100 + 4 * xs.length) ∧ Hid (w.grownBy wr (some p))) (fun out _ _ => 8 - lenV out)
            case atStart => exact ⟨_, 0, [], rfl, rfl, by simp, oN, hc6.more (by omega), HG6⟩
            case round =>
              obtain ⟨A, c, xs, rfl, rfl, hxl, ho, hc, HGr⟩ := hrel
              clear oN hc6 HG6
              have hbd := fun q hq => (ho.bd q hq).1
              go_wp2_with fail
              refine (pick_any p _ 2 _ hc (by omega) (by omega) (by omega)).mono ?_
              rintro e w5 ⟨y, rfl, ⟨y0, y1⟩, hc3, hg3⟩
              have ho3 := ho.mark hg3 (fun z z' hz hz' => by cases hz; have := hbd z' hz'; omega)
              have HG3 := Lib.hid (grown_trans HGr.out hg3)
              have e1 : IntKind.i64.wrap (6 + y) = 6 + y := IntWalk.i64_in _ (by omega)
              clear ho hc HGr hg3
              by_cases hlt : (xs.length : Int) < 6 + y
              · have hx9 : xs.length ≤ 6 := by omega
                have e2 : IntKind.i64.wrap (97 + (xs.length : Int)) = 97 + (xs.length : Int) := IntWalk.i64_in _ (by omega)
                obtain ⟨s, hs1, cv⟩ := conv7 w5 (97 + (xs.length : Int)) (by omega) (by omega)
                have hb4 := (Below.refl w5.heap.size w5).alloc (Nat.le_refl _) (.cells #[.int .u8 (97 + (xs.length : Int))] 5)
                have ho4 := ho3.all hb4
                have hc4 := hc3.all hb4
                have HG4 := Lib.hid (grown_trans HG3.out (below_grown (row := some p) hb4))
                obtain ⟨w6, hw6⟩ : ∃ v, w5.alloc (.cells #[.int .u8 (97 + (xs.length : Int))] 5) = v := ⟨_, rfl⟩
                unfold Hid at HG4
                rw [hw6] at ho4 hc4 HG4 cv
                replace HG4 := Lib.hid HG4
                have hz6 := HG4.out.size
                have hb5 := (Below.refl w6.heap.size w6).alloc (Nat.le_refl _) (.cells #[.string s, .int .i64 5] 43)
                have ho5 := ho4.all hb5
                have hc5 := hc4.all hb5
                have HG5 := Lib.hid (grown_trans HG4.out (below_grown (row := some p) hb5))
                have hr := RdF.lit (F := dyePartF) (w := w6) (cs := #[.string s, .int .i64 5]) (a := ⟨s, 5⟩) rfl ⟨by show s.size ≤ maxLen; unfold maxLen; omega, by show I64 5; exact i64_small5 (by decide) (by decide)⟩
                clear hc3 ho3 HG3 hb4 hb5 ho4 hc4 HG4
                go_wp2_with (refine wpList_appendF dyePartF rfl _ (.tmp 78) (.tmp 85) 24 (.agg #[.string ⟨#[]⟩, .int .i64 0]) 24 rfl Try.underlying24 info_DyePart rfl (by decide) (by decide) w.heap.size _ xs [⟨s, 5⟩] w6.heap.size 0 1 1 (w6.heap.size + 1) rfl rfl ho5 hr (by simp; omega) (by simp; omega) ?_)
                intro A6 c6 w7 ho6 hg6
                have hc6 := hc5.mark hg6 (fun z hz => by have := hbd z hz; omega)
                have HG6 := Lib.hid (grown_far HG5.out hg6 hbd)
                clear hc5 ho5 HG5 hg6 hr e1 e2 cv
                go_wp2
                go_roundw
                case rel => exact ⟨A6, c6, xs ++ [⟨s, 5⟩], by rw [List.length_append]; rfl, by rw [List.length_append]; go_num, by rw [List.length_append]; simp; omega, by rw [List.length_append]; exact ho6, hc6.more (by rw [List.length_append]; simp; omega), HG6⟩
                case measure => simp [lenV]; omega
              · go_wp2
                go_ret
                exact ⟨A, c, xs, rfl, by omega, ho3, hc3.more (by omega), HG3.out⟩
          have hx0' : (x == 0) = false := by simpa using hx0
          have hx1' : (x == 1) = false := by simpa using hx1
          have hx2' : (x == 2) = false := by simpa using hx2
          clear hx0 hx1 hx2
          have u0 := r5.cell 0
          have g0 := r5.frozen 0
          have u1 := r5.cell 1
          have g1 := r5.frozen 1
          obtain ⟨y0, hy0⟩ := ho5.there (j := j) (i := 0) hj (by decide)
          have hf0 : w4.frozen? ⟨g, j * 2, none⟩ = false := ho5.frozen _
          replace hy0 : w4.cell? ⟨g, j * 2, none⟩ = some y0 := hy0
          obtain ⟨y1, hy1⟩ := ho5.there (j := j) (i := 1) hj (by decide)
          have hf1 : w4.frozen? ⟨g, j * 2 + 1, none⟩ = false := ho5.frozen _
          replace hy1 : w4.cell? ⟨g, j * 2 + 1, none⟩ = some y1 := hy1
          have hoF := ho5
          have hcF := hc5
          have HGF := HG5.out
          have HP := Lib.hid (hoF.put (j := j) hj (⟨a.f0, a.f1⟩ : DyePartR) ⟨by show ByteArray.size (a.f0) ≤ maxLen; first | exact ok.1 | (unfold maxLen; omega), by show I64 (a.f1); first | exact ok.2 | assumption⟩)
          replace hcF := Lib.hid (hcF.mark HP.out.2 (fun z hz => by cases hz; omega))
          replace HGF := Lib.hid (grown_far HGF HP.out.2 (fun z hz => by cases hz; omega))
          clear HG5 hoF hc5
          go_wp2
          go_ret
          exact ⟨some ⟨g, 0, none⟩, c6, zs.set j ⟨a.f0, a.f1⟩, by rw [List.length_set]; rfl, by rw [List.length_set]; omega, by rw [List.length_set]; exact HP.out.1, hcF.out.more (by omega), HGF.out⟩
      · replace hc := hc.more (show _ ≤ k + 60 by omega)
        have hx1 : 1 ≤ xs.length := by omega
        clear hx0
        have hn0 : ((xs.length : Int) == 0) = false := beq_eq_false_iff_ne.2 (by omega)
        go_wp2_with fail
        refine (pick_any p _ (xs.length : Int) _ hc (by omega) (by omega) (by omega)).mono ?_
        rintro e w3 ⟨x, rfl, ⟨x0, x1⟩, hc3, hg3⟩
        have ho3 := ho.mark hg3 (fun z z' hz hz' => by cases hz; have := hbd z' hz'; omega)
        have HG3 := Lib.hid (grown_trans HGr.out hg3)
        have hw3 := HG3.out.size
        obtain ⟨j, rfl⟩ := Int.eq_ofNat_of_zero_le x0
        have hj : j < xs.length := by omega
        have hji : (j : Int) < (xs.length : Int) := by omega
        clear ho hc HGr hg3 x0 x1
        obtain ⟨g, rfl, hg1, hg2⟩ := ho3.some_ (by omega)
        obtain ⟨b, off, a, hA, hbB, ok, HX, hd0, hd1⟩ := DyePartR_at (F := dyePartF) rfl (fun _ => rfl) (fun _ => rfl) ho3.rd hj
        cases hA
        rw [Nat.zero_add] at hd0 hd1
        have hb4 := (Below.refl w3.heap.size w3).alloc (Nat.le_refl _) (.cells #[.string a.f0, .int .i64 a.f1] 43)
        have r4 := Blk.new w3 #[.string a.f0, .int .i64 a.f1] 43
        have ho4 := ho3.all hb4
        have hc4 := hc3.all hb4
        have HG4 := Lib.hid (grown_trans HG3.out (below_grown (row := some p) hb4))
        have hp3 := hc3.lt
        clear hb4 ho3 HG3 hc3
        go_wp2_with fail
        refine (pick_any p _ 40 _ hc4 (by omega) (by omega) (by omega)).mono ?_
        rintro e w4 ⟨x, rfl, ⟨x0, x1⟩, hc5, hg4⟩
        have ho5 := ho4.mark hg4 (fun z z' hz hz' => by cases hz; have := hbd z' hz'; omega)
        have r5 := r4.mark hg4 (fun z hz => by cases hz; omega)
        have HG5 := Lib.hid (grown_trans HG4.out hg4)
        clear ho4 r4 hc4 HG4 hg4 hd0 hd1
        by_cases hx0 : x = 0
        · subst hx0
          have u0 := r5.cell 0
          have u1 := r5.cell 1
          go_wp2_with fail
          refine (of_lit p _ w4.heap.size 3 [⟨#[]⟩, ⟨#[65]⟩, ⟨#[122, 105, 110, 99]⟩] w4 rfl rfl hc5 (by omega) (by decide) (by decide) (by decide)).mono ?_
          rintro e w6 ⟨y9, rfl, hy8, hc6, hg6⟩
          have hy9 : y9.size ≤ 20 := (show ∀ x ∈ ([⟨#[]⟩, ⟨#[65]⟩, ⟨#[122, 105, 110, 99]⟩] : List ByteArray), x.size ≤ 20 by decide) y9 hy8
          have ho6 := ho5.mark hg6 (fun z z' hz hz' => by cases hz; have := hbd z' hz'; omega)
          have r6 := r5.mark hg6 (fun z hz => by cases hz; omega)
          have HG6 := Lib.hid (grown_trans HG5.out hg6)
          clear ho5 r5 hc5 HG5 hg6 u0 u1 hy8
          have u0 := r6.cell 0
          have g0 := r6.frozen 0
          have u1 := r6.cell 1
          have g1 := r6.frozen 1
          obtain ⟨y0, hy0⟩ := ho6.there (j := j) (i := 0) hj (by decide)
          have hf0 : w6.frozen? ⟨g, j * 2, none⟩ = false := ho6.frozen _
          replace hy0 : w6.cell? ⟨g, j * 2, none⟩ = some y0 := hy0
          obtain ⟨y1, hy1⟩ := ho6.there (j := j) (i := 1) hj (by decide)
          have hf1 : w6.frozen? ⟨g, j * 2 + 1, none⟩ = false := ho6.frozen _
          replace hy1 : w6.cell? ⟨g, j * 2 + 1, none⟩ = some y1 := hy1
          have hoF := ho6.far (a := ⟨w3.heap.size, 0, none⟩) (by simp [Value.ownBlock]; omega) (.string y9)
          have hcF := cur_set (a := ⟨w3.heap.size, 0, none⟩) hc6 hp3 (.string y9)
          have HGF := grown_set (a := ⟨w3.heap.size, 0, none⟩) HG6.out hw3 (.string y9)
          have HP := Lib.hid (hoF.put (j := j) hj (⟨y9, a.f1⟩ : DyePartR) ⟨by show ByteArray.size (y9) ≤ maxLen; first | exact ok.1 | (unfold maxLen; omega), by show I64 (a.f1); first | exact ok.2 | assumption⟩)
          replace hcF := Lib.hid (hcF.mark HP.out.2 (fun z hz => by cases hz; omega))
          replace HGF := Lib.hid (grown_far HGF HP.out.2 (fun z hz => by cases hz; omega))
          clear HG6 hoF hc6
          go_wp2
          go_ret
          exact ⟨some ⟨g, 0, none⟩, c, xs.set j ⟨y9, a.f1⟩, by rw [List.length_set]; rfl, by rw [List.length_set]; omega, by rw [List.length_set]; exact HP.out.1, hcF.out.more (by omega), HGF.out⟩
        by_cases hx1 : x = 1
        · subst hx1
          clear hx0
          have u0 := r5.cell 0
          have u1 := r5.cell 1
          go_wp2_with fail
          refine (among5 p _ w4.heap.size 2 [0, 1001] w4 rfl rfl hc5 (by omega) (by decide) (by decide) (i64_lit (by decide))).mono ?_
          rintro e w6 ⟨y9, rfl, hy8, hc6, hg6⟩
          have hy9 := i64_lit (l := [0, 1001]) (by decide) y9 hy8
          have ho6 := ho5.mark hg6 (fun z z' hz hz' => by cases hz; have := hbd z' hz'; omega)
          have r6 := r5.mark hg6 (fun z hz => by cases hz; omega)
          have HG6 := Lib.hid (grown_trans HG5.out hg6)
          clear ho5 r5 hc5 HG5 hg6 u0 u1 hy8
          have u0 := r6.cell 0
          have g0 := r6.frozen 0
          have u1 := r6.cell 1
          have g1 := r6.frozen 1
          obtain ⟨y0, hy0⟩ := ho6.there (j := j) (i := 0) hj (by decide)
          have hf0 : w6.frozen? ⟨g, j * 2, none⟩ = false := ho6.frozen _
          replace hy0 : w6.cell? ⟨g, j * 2, none⟩ = some y0 := hy0
          obtain ⟨y1, hy1⟩ := ho6.there (j := j) (i := 1) hj (by decide)
          have hf1 : w6.frozen? ⟨g, j * 2 + 1, none⟩ = false := ho6.frozen _
          replace hy1 : w6.cell? ⟨g, j * 2 + 1, none⟩ = some y1 := hy1
          have hoF := ho6.far (a := ⟨w3.heap.size, 1, none⟩) (by simp [Value.ownBlock]; omega) (.int .i64 y9)
          have hcF := cur_set (a := ⟨w3.heap.size, 1, none⟩) hc6 hp3 (.int .i64 y9)
          have HGF := grown_set (a := ⟨w3.heap.size, 1, none⟩) HG6.out hw3 (.int .i64 y9)
          have HP := Lib.hid (hoF.put (j := j) hj (⟨a.f0, y9⟩ : DyePartR) ⟨by show ByteArray.size (a.f0) ≤ maxLen; first | exact ok.1 | (unfold maxLen; omega), by show I64 (y9); first | exact ok.2 | assumption⟩)
          replace hcF := Lib.hid (hcF.mark HP.out.2 (fun z hz => by cases hz; omega))
          replace HGF := Lib.hid (grown_far HGF HP.out.2 (fun z hz => by cases hz; omega))
          clear HG6 hoF hc6
          go_wp2
          go_ret
          exact ⟨some ⟨g, 0, none⟩, c, xs.set j ⟨a.f0, y9⟩, by rw [List.length_set]; rfl, by rw [List.length_set]; omega, by rw [List.length_set]; exact HP.out.1, hcF.out.more (by omega), HGF.out⟩
        by_cases hx2 : x = 2
        · subst hx2
          clear hx0 hx1 r5
          have hz5 := HG5.out.size
          have hbE := (Below.refl w4.heap.size w4).alloc (Nat.le_refl _) (.cells #[] 43)
          have oN : OwnF dyePartF (w4.alloc (.cells #[] 43)) w.heap.size (.slice (some ⟨w4.heap.size, 0, none⟩) 0 0) [] := OwnF.empty dyePartF (w := w4) hz5
          have hc6 := hc5.all hbE
          have HG6 := Lib.hid (grown_trans HG5.out (below_grown (row := some p) hbE))
          clear ho5 hc5 HG5 hbE hbd
          go_wp2
          go_loopw [3, 8] (fun out ii wr => ∃ (A : Option Addr) (c : Nat) (xs : List DyePartR), out = .slice A xs.length c ∧ ii = .int .i64 (xs.length : Int) ∧ xs.length ≤ 7 ∧ OwnF dyePartF wr w.heap.size (.slice A xs.length c) xs ∧ Cur wr p (k + 100 + 4 * xs.length) ∧ Hid (w.grownBy wr (some p))) (fun out _ _ => 8 - lenV out)
          case atStart => exact ⟨_, 0, [], rfl, rfl, by simp, oN, hc6.more (by omega), HG6⟩
          case round =>
            obtain ⟨A, c, xs, rfl, rfl, hxl, ho, hc, HGr⟩ := hrel
            clear oN hc6 HG6
            have hbd := fun q hq => (ho.bd q hq).1
            go_wp2_with fail
            refine (pick_any p _ 2 _ hc (by omega) (by omega) (by omega)).mono ?_
            rintro e w5 ⟨y, rfl, ⟨y0, y1⟩, hc3, hg3⟩
            have ho3 := ho.mark hg3 (fun z z' hz hz' => by cases hz; have := hbd z' hz'; omega)
            have HG3 := Lib.hid (grown_trans HGr.out hg3)
            have e1 : IntKind.i64.wrap (6 + y) = 6 + y := IntWalk.i64_in _ (by omega)
            clear ho hc HGr hg3
            by_cases hlt : (xs.length : Int) < 6 + y
            · have hx9 : xs.length ≤ 6 := by omega
              have e2 : IntKind.i64.wrap (97 + (xs.length : Int)) = 97 + (xs.length : Int) := IntWalk.i64_in _ (by omega)
              obtain ⟨s, hs1, cv⟩ := conv7 w5 (97 + (xs.length : Int)) (by omega) (by omega)
              have hb4 := (Below.refl w5.heap.size w5).alloc (Nat.le_refl _) (.cells #[.int .u8 (97 + (xs.length : Int))] 5)
              have ho4 := ho3.all hb4
              have hc4 := hc3.all hb4
              have HG4 := Lib.hid (grown_trans HG3.out (below_grown (row := some p) hb4))
              obtain ⟨w6, hw6⟩ : ∃ v, w5.alloc (.cells #[.int .u8 (97 + (xs.length : Int))] 5) = v := ⟨_, rfl⟩
              unfold Hid at HG4
              rw [hw6] at ho4 hc4 HG4 cv
              replace HG4 := Lib.hid HG4
              have hz6 := HG4.out.size
              have hb5 := (Below.refl w6.heap.size w6).alloc (Nat.le_refl _) (.cells #[.string s, .int .i64 5] 43)
              have ho5 := ho4.all hb5
              have hc5 := hc4.all hb5
              have HG5 := Lib.hid (grown_trans HG4.out (below_grown (row := some p) hb5))
              have hr := RdF.lit (F := dyePartF) (w := w6) (cs := #[.string s, .int .i64 5]) (a := ⟨s, 5⟩) rfl ⟨by show s.size ≤ maxLen; unfold maxLen; omega, by show I64 5; exact i64_small5 (by decide) (by decide)⟩
              clear hc3 ho3 HG3 hb4 hb5 ho4 hc4 HG4
              go_wp2_with (refine wpList_appendF dyePartF rfl _ (.tmp 78) (.tmp 85) 24 (.agg #[.string ⟨#[]⟩, .int .i64 0]) 24 rfl Try.underlying24 info_DyePart rfl (by decide) (by decide) w.heap.size _ xs [⟨s, 5⟩] w6.heap.size 0 1 1 (w6.heap.size + 1) rfl rfl ho5 hr (by simp; omega) (by simp; omega) ?_)
              intro A6 c6 w7 ho6 hg6
              have hc6 := hc5.mark hg6 (fun z hz => by have := hbd z hz; omega)
              have HG6 := Lib.hid (grown_far HG5.out hg6 hbd)
              clear hc5 ho5 HG5 hg6 hr e1 e2 cv
              go_wp2
              go_roundw
              case rel => exact ⟨A6, c6, xs ++ [⟨s, 5⟩], by rw [List.length_append]; rfl, by rw [List.length_append]; go_num, by rw [List.length_append]; simp; omega, by rw [List.length_append]; exact ho6, hc6.more (by rw [List.length_append]; simp; omega), HG6⟩
              case measure => simp [lenV]; omega
            · go_wp2
              go_ret
              exact ⟨A, c, xs, rfl, by omega, ho3, hc3.more (by omega), HG3.out⟩
        have hx0' : (x == 0) = false := by simpa using hx0
        have hx1' : (x == 1) = false := by simpa using hx1
        have hx2' : (x == 2) = false := by simpa using hx2
        clear hx0 hx1 hx2
        have u0 := r5.cell 0
        have g0 := r5.frozen 0
        have u1 := r5.cell 1
        have g1 := r5.frozen 1
        obtain ⟨y0, hy0⟩ := ho5.there (j := j) (i := 0) hj (by decide)
        have hf0 : w4.frozen? ⟨g, j * 2, none⟩ = false := ho5.frozen _
        replace hy0 : w4.cell? ⟨g, j * 2, none⟩ = some y0 := hy0
        obtain ⟨y1, hy1⟩ := ho5.there (j := j) (i := 1) hj (by decide)
        have hf1 : w4.frozen? ⟨g, j * 2 + 1, none⟩ = false := ho5.frozen _
        replace hy1 : w4.cell? ⟨g, j * 2 + 1, none⟩ = some y1 := hy1
        have hoF := ho5
        have hcF := hc5
        have HGF := HG5.out
        have HP := Lib.hid (hoF.put (j := j) hj (⟨a.f0, a.f1⟩ : DyePartR) ⟨by show ByteArray.size (a.f0) ≤ maxLen; first | exact ok.1 | (unfold maxLen; omega), by show I64 (a.f1); first | exact ok.2 | assumption⟩)
        replace hcF := Lib.hid (hcF.mark HP.out.2 (fun z hz => by cases hz; omega))
        replace HGF := Lib.hid (grown_far HGF HP.out.2 (fun z hz => by cases hz; omega))
        clear HG5 hoF hc5
        go_wp2
        go_ret
        exact ⟨some ⟨g, 0, none⟩, c, xs.set j ⟨a.f0, a.f1⟩, by rw [List.length_set]; rfl, by rw [List.length_set]; omega, by rw [List.length_set]; exact HP.out.1, hcF.out.more (by omega), HGF.out⟩
end Go.Proofs.Ytjlidgeeehlkcaa
