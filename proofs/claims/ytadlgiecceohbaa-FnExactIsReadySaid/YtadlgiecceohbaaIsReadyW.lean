/- The walk of the law FnExactIsReady. No condition. -/
import Derived.Test.YtadlgiecceohbaaReady2
import Derived.Test.YtadlgiecceohbaaDyePartHelp
import Derived.Test.YtadlgiecceohbaaBathHelp
import Derived.Deep.DeepCutAuto
namespace Go.Proofs.Ytadlgiecceohbaa.isReady
open Go.RowKit

set_option maxRecDepth 100000 in
set_option maxHeartbeats 4000000 in
theorem core (w : World) (A0 : Option Addr) (n0 c0 : Nat) (xs0 : List DyePartR) (L1 T1 Y1 : Int) (A1 : Option Addr) (n1 c1 : Nat) (xs1 : List Int) (h0 : RdF dyePartL w w.heap.size A0 n0 c0 xs0) (h1 : Rd w w.heap.size A1 n1 c1 xs1) (hn : n0 + bulkDyePart xs0 + n1 ≤ 1048576)  (r0 : Bool) (r1 : Bool) (hspec : Hid (∀ (w : World) (A0 : Option Addr) (c0 : Nat) (A1 : Option Addr) (c1 : Nat), RdF dyePartF w w.heap.size A0 xs0.length c0 xs0 → Rd w w.heap.size A1 xs1.length c1 xs1 → Calls Try.prog 27 #[.slice A0 xs0.length c0, bathV L1 T1 Y1 (.slice A1 xs1.length c1)] w (Out w (.tuple #[.bool r0, .bool r1])))) (himpl : Hid (∀ (w : World) (A0 : Option Addr) (c0 : Nat) (A1 : Option Addr) (c1 : Nat), RdF dyePartF w w.heap.size A0 xs0.length c0 xs0 → Rd w w.heap.size A1 xs1.length c1 xs1 → Calls Try.prog 28 #[.slice A0 xs0.length c0, bathV L1 T1 Y1 (.slice A1 xs1.length c1)] w (Out w (.tuple #[.bool r0, .bool r1])))) :
    Calls Try.prog 6 #[.slice A0 n0 c0, bathV L1 T1 Y1 (.slice A1 n1 c1)] w fun e w' => e = .returned (.bool true) ∧ Below w.heap.size w w' := by
  have HB := Lib.hid (Below.refl w.heap.size w)
  have hz : w.heap.size ≤ w.heap.size := Nat.le_refl _
  have R0 := h0; have hl0 := h0.len; subst hl0; clear h0
  have R1 := h1; have hl1 := h1.len; subst hl1; clear h1
  have hq0 : 0 ≤ ((xs0.length + bulkDyePart xs0 : Nat) : Int) := by omega
  have hq1 : ((xs0.length + bulkDyePart xs0 : Nat) : Int) ≤ 1048576 := by omega
  have hn0 : xs0.length ≤ 1048576 := by omega
  have hn1 : xs1.length ≤ 1048576 := by omega
  go_enter Try.func6, Try.ntmps6
  go_wp2_with fail
  refine (szDyePartS_yes A0 _ c0 _ xs0 _ _ (R0.alloc (by first | omega | (simp; done) | (simp; omega)) _) (by first | omega | (simp; done) | (simp; omega)) (by omega) (by omega)).mono ?_
  rintro e w_1 ⟨rfl, hb⟩
  have hb0 := hb
  replace hb := ((Below.refl w.heap.size w).alloc (by simp) _).trans (hb0.mono (by first | omega | (simp; done) | (simp; omega)))
  replace R0 := R0.all hb hz
  replace R1 := R1.all hb hz
  have Ba1 := (Box.new w #[.int .i64 L1, .int .i64 T1, .int .i64 Y1, .slice A1 xs1.length c1] 31).all hb0
  have hsw_1 : w.heap.size + 1 ≤ w_1.heap.size := by have := hb0.size; simp at this; omega
  clear hb0
  replace HB := Lib.hid (HB.out.trans (hb.mono hz))
  replace hz : w.heap.size ≤ w_1.heap.size := by omega
  clear hb
  have za1 := Ba1.1
  have ea10 := Ba1.2 0 _ rfl
  have ea11 := Ba1.2 1 _ rfl
  have ea12 := Ba1.2 2 _ rfl
  have ea13 := Ba1.2 3 _ rfl
  go_wp2_with fail
  refine (szBath_rest L1 T1 Y1 A1 _ c1 _ _ (by omega) (by omega)).mono ?_
  rintro e w_2 ⟨rfl, hb⟩
  replace Ba1 := Ba1.all hb
  replace R0 := R0.all hb hz
  replace R1 := R1.all hb hz
  have hsw_2 : w_1.heap.size ≤ w_2.heap.size := hb.size
  replace HB := Lib.hid (HB.out.trans (hb.mono hz))
  replace hz : w.heap.size ≤ w_2.heap.size := by omega
  clear hb za1 ea10 ea11 ea12 ea13
  have za1 := Ba1.1
  have ea10 := Ba1.2 0 _ rfl
  have ea11 := Ba1.2 1 _ rfl
  have ea12 := Ba1.2 2 _ rfl
  have ea13 := Ba1.2 3 _ rfl
  go_wp2_with fail
  go_cut [6, 7] (fun s6 s7 wx => s6 = .bool r0 ∧ s7 = .bool r1 ∧ Below w_2.heap.size w_2 wx)
  case first =>
    refine wp_region_noPanic ?_
    refine wp_region_held_drew (S := (fun w' => w'.cell? ⟨w.heap.size, 0, none⟩ = some (.int .i64 L1) ∧ w'.cell? ⟨w.heap.size, 1, none⟩ = some (.int .i64 T1) ∧ w'.cell? ⟨w.heap.size, 2, none⟩ = some (.int .i64 Y1) ∧ w'.cell? ⟨w.heap.size, 3, none⟩ = some (.slice A1 xs1.length c1))) (by kernel_rfl) (by go_keep) (fun hHeld => ?_)
    refine wpAnyH_take (i := 0) (v := ?_) rfl (by kernel_rfl) (by kernel_rfl) (by kernel_rfl) (fun _ _ _ h => h) (Or.inl ⟨by rfl, ?_⟩) (by assumption) ?_
    rotate_left
    · intro w hSw; (try dsimp only at hSw); go_simp; (try with_reducible rfl)
    (try simp only [Act.put, List.getElem_toArray, List.getElem_cons_zero, List.setIfInBounds_toArray, List.set_cons_zero, List.set_cons_succ])
    refine wpAnyH_take (i := 2) (v := ?_) rfl (by kernel_rfl) (by kernel_rfl) (by kernel_rfl) (fun _ _ _ h => h) (Or.inl ⟨by rfl, ?_⟩) (by assumption) ?_
    rotate_left
    · intro w hSw; (try dsimp only at hSw); go_simp; (try with_reducible rfl)
    (try simp only [Act.put, List.getElem_toArray, List.getElem_cons_zero, List.getElem_cons_succ, List.setIfInBounds_toArray, List.set_cons_zero, List.set_cons_succ])
    have HB0 := belowD (Below.refl w_2.heap.size w_2)
    clear hHeld
    refine wpAnyH_ready (rs := [1]) (by kernel_rfl) (by simp) ?_
    refine AllReadyH.cons rfl (fun K hK => ?_) ?_
    · go_simp
      refine (toDyePartS_any A0 _ c0 w.heap.size xs0 _ (R0.below HB0 hz) (Nat.le_trans hz HB0.size) hn0).mono ?_
      rintro e wq1 ⟨gd0, rfl, own, hb⟩
      have HB1 := HB0.trans (hb.mono HB0.size)
      have O1_0 := own.mono HB0.size
      clear own hb
      refine hK.out _ _ (by exact ⟨cells_of HB1 ea10 za1, cells_of HB1 ea11 za1, cells_of HB1 ea12 za1, cells_of HB1 ea13 za1⟩) (fun hHeld => ?_)
      clear hK K hHeld
      (try simp only [Act.put, List.getElem_toArray, List.getElem_cons_zero, List.getElem_cons_succ, List.setIfInBounds_toArray, List.set_cons_zero, List.set_cons_succ])
      refine wpAnyH_ready (rs := [3]) (by kernel_rfl) (by simp) ?_
      refine AllReadyH.cons rfl (fun K hK => ?_) ?_
      · go_simp
        refine (toBath_any L1 T1 Y1 A1 _ c1 w.heap.size xs1 _ (R1.below HB1 hz) (Nat.le_trans hz HB1.size) hn1).mono ?_
        rintro e wq2 ⟨gd1, rfl, own, hb⟩
        have HB2 := HB1.trans (hb.mono HB1.size)
        have O2_0 := O1_0.all hb
        have O2_1 := own.mono HB1.size
        clear own hb
        refine hK.out _ _ (by exact ⟨cells_of HB2 ea10 za1, cells_of HB2 ea11 za1, cells_of HB2 ea12 za1, cells_of HB2 ea13 za1⟩) (fun hHeld => ?_)
        clear hK K hHeld
        (try simp only [Act.put, List.getElem_toArray, List.getElem_cons_zero, List.getElem_cons_succ, List.setIfInBounds_toArray, List.set_cons_zero, List.set_cons_succ])
        refine wpAnyH_ready (rs := [4]) (by kernel_rfl) (by simp) ?_
        refine AllReadyH.cons rfl (fun K hK => ?_) ?_
        · go_simp
          refine (hspec.out _ _ _ _ _ O2_0.rd O2_1.rd).mono ?_
          rintro e wq3 ⟨rfl, hb⟩
          have HB3 := HB2.trans (hb.mono HB2.size)
          clear hb
          refine hK.out _ _ (by exact ⟨cells_of HB3 ea10 za1, cells_of HB3 ea11 za1, cells_of HB3 ea12 za1, cells_of HB3 ea13 za1⟩) (fun hHeld => ?_)
          clear hK K
          (try simp only [Act.put, List.getElem_toArray, List.getElem_cons_zero, List.getElem_cons_succ, List.setIfInBounds_toArray, List.set_cons_zero, List.set_cons_succ])
          refine wpAnyH_take (i := 5) (v := ?_) rfl (by kernel_rfl) (by kernel_rfl) (by kernel_rfl) (fun _ _ _ h => h) (Or.inl ⟨by rfl, ?_⟩) (by assumption) ?_
          rotate_left
          · intro w hSw; (try dsimp only at hSw); go_simp; (try with_reducible rfl)
          (try simp only [Act.put, List.getElem_toArray, List.getElem_cons_zero, List.getElem_cons_succ, List.setIfInBounds_toArray, List.set_cons_zero, List.set_cons_succ])
          refine wpAnyH_take (i := 6) (v := ?_) rfl (by kernel_rfl) (by kernel_rfl) (by kernel_rfl) (fun _ _ _ h => h) (Or.inl ⟨by rfl, ?_⟩) (by assumption) ?_
          rotate_left
          · intro w hSw; (try dsimp only at hSw); go_simp; (try with_reducible rfl)
          (try simp only [Act.put, List.getElem_toArray, List.getElem_cons_zero, List.getElem_cons_succ, List.setIfInBounds_toArray, List.set_cons_zero, List.set_cons_succ])
          refine wpAnyH_take (i := 7) (v := ?_) rfl (by kernel_rfl) (by kernel_rfl) (by kernel_rfl) (fun _ _ _ h => h) (Or.inl ⟨by rfl, ?_⟩) (by assumption) ?_
          rotate_left
          · intro w hSw; (try dsimp only at hSw); go_simp; (try with_reducible rfl)
          (try simp only [Act.put, List.getElem_toArray, List.getElem_cons_zero, List.getElem_cons_succ, List.setIfInBounds_toArray, List.set_cons_zero, List.set_cons_succ])
          refine wpAnyH_take (i := 8) (v := ?_) rfl (by kernel_rfl) (by kernel_rfl) (by kernel_rfl) (fun _ _ _ h => h) (Or.inl ⟨by rfl, ?_⟩) (by assumption) ?_
          rotate_left
          · intro w hSw; (try dsimp only at hSw); go_simp; (try with_reducible rfl)
          (try simp only [Act.put, List.getElem_toArray, List.getElem_cons_zero, List.getElem_cons_succ, List.setIfInBounds_toArray, List.set_cons_zero, List.set_cons_succ])
          refine wpAnyH_take (i := 9) (v := ?_) rfl (by kernel_rfl) (by kernel_rfl) (by kernel_rfl) (fun _ _ _ h => h) (Or.inl ⟨by rfl, ?_⟩) (by assumption) ?_
          rotate_left
          · intro w hSw; (try dsimp only at hSw); go_simp; (try with_reducible rfl)
          (try simp only [Act.put, List.getElem_toArray, List.getElem_cons_zero, List.getElem_cons_succ, List.setIfInBounds_toArray, List.set_cons_zero, List.set_cons_succ])
          clear hHeld
          refine wpAnyH_done (by kernel_rfl) ?_ _
          refine NoPanic.normal ?_
          go_wp2_with fail
          go_meet
          exact ⟨rfl, rfl, HB3⟩
        exact AllReadyH.nil
      exact AllReadyH.nil
    exact AllReadyH.nil
  case rest =>
    obtain ⟨rfl, rfl, hb⟩ := hcut
    obtain ⟨w_3, hw⟩ : ∃ w_3, w_3 = wc := ⟨_, rfl⟩
    subst hw
    replace Ba1 := Ba1.all hb
    replace R0 := R0.all hb hz
    replace R1 := R1.all hb hz
    replace HB := Lib.hid (HB.out.trans (hb.mono hz))
    have hsw_3 : w_2.heap.size ≤ w_3.heap.size := hb.size
    replace hz : w.heap.size ≤ w_3.heap.size := Nat.le_trans hz hsw_3
    clear hb za1 ea10 ea11 ea12 ea13
    have za1 := Ba1.1
    have ea10 := Ba1.2 0 _ rfl
    have ea11 := Ba1.2 1 _ rfl
    have ea12 := Ba1.2 2 _ rfl
    have ea13 := Ba1.2 3 _ rfl
    go_wp2_with fail
    refine (toDyePartS_any A0 _ c0 _ xs0 _ R0 (by first | omega | (simp; done) | (simp; omega)) hn0).mono ?_
    rintro e w_4 ⟨g4, rfl, own, hb⟩
    replace Ba1 := Ba1.all hb
    replace R0 := R0.all hb hz
    replace R1 := R1.all hb hz
    have hsw_4 : w_3.heap.size ≤ w_4.heap.size := hb.size
    replace HB := Lib.hid (HB.out.trans (hb.mono hz))
    replace hz : w.heap.size ≤ w_4.heap.size := by omega
    clear hb za1 ea10 ea11 ea12 ea13
    have Ot4 := own; clear own
    have Obt4 := Lib.hid Ot4.bd
    have za1 := Ba1.1
    have ea10 := Ba1.2 0 _ rfl
    have ea11 := Ba1.2 1 _ rfl
    have ea12 := Ba1.2 2 _ rfl
    have ea13 := Ba1.2 3 _ rfl
    go_wp2_with fail
    refine (toBath_any L1 T1 Y1 A1 _ c1 _ xs1 _ R1 (by first | omega | (simp; done) | (simp; omega)) hn1).mono ?_
    rintro e w_5 ⟨g5, rfl, own, hb⟩
    replace Ba1 := Ba1.all hb
    replace R0 := R0.all hb hz
    replace R1 := R1.all hb hz
    replace Ot4 := Ot4.all hb
    have hsw_5 : w_4.heap.size ≤ w_5.heap.size := hb.size
    replace HB := Lib.hid (HB.out.trans (hb.mono hz))
    replace hz : w.heap.size ≤ w_5.heap.size := by omega
    clear hb za1 ea10 ea11 ea12 ea13
    have Ot5 := own; clear own
    have Obt5 := Lib.hid Ot5.bd
    have za1 := Ba1.1
    have ea10 := Ba1.2 0 _ rfl
    have ea11 := Ba1.2 1 _ rfl
    have ea12 := Ba1.2 2 _ rfl
    have ea13 := Ba1.2 3 _ rfl
    go_wp2_with fail
    refine (himpl.out _ _ _ _ _ (Ot4.alloc _).rd (Ot5.alloc _).rd).mono ?_
    rintro e w_6 ⟨rfl, hb⟩
    have hb0 := hb
    replace hb := ((Below.refl w_5.heap.size w_5).alloc (by simp) _).trans (hb0.mono (by first | omega | (simp; done) | (simp; omega)))
    replace Ba1 := Ba1.all hb
    replace R0 := R0.all hb hz
    replace R1 := R1.all hb hz
    replace Ot4 := Ot4.all hb
    replace Ot5 := Ot5.all hb
    have Bx1 := (Box.new w_5 #[.int .i64 L1, .int .i64 T1, .int .i64 Y1, .slice (some ⟨g5, 0, none⟩) xs1.length xs1.length] 34).all hb0
    have hsw_6 : w_5.heap.size + 1 ≤ w_6.heap.size := by have := hb0.size; simp at this; omega
    clear hb0
    replace HB := Lib.hid (HB.out.trans (hb.mono hz))
    replace hz : w.heap.size ≤ w_6.heap.size := by omega
    clear hb za1 ea10 ea11 ea12 ea13
    have za1 := Ba1.1
    have ea10 := Ba1.2 0 _ rfl
    have ea11 := Ba1.2 1 _ rfl
    have ea12 := Ba1.2 2 _ rfl
    have ea13 := Ba1.2 3 _ rfl
    have zx1 := Bx1.1
    have ex10 := Bx1.2 0 _ rfl
    have ex11 := Bx1.2 1 _ rfl
    have ex12 := Bx1.2 2 _ rfl
    have ex13 := Bx1.2 3 _ rfl
    go_wp2_with fail
    refine (toDyePartS_any A0 _ c0 _ xs0 _ R0 (by first | omega | (simp; done) | (simp; omega)) hn0).mono ?_
    rintro e w_7 ⟨g7, rfl, own, hb⟩
    replace Ba1 := Ba1.all hb
    replace Bx1 := Bx1.all hb
    replace R0 := R0.all hb hz
    replace R1 := R1.all hb hz
    replace Ot4 := Ot4.all hb
    replace Ot5 := Ot5.all hb
    have hsw_7 : w_6.heap.size ≤ w_7.heap.size := hb.size
    replace HB := Lib.hid (HB.out.trans (hb.mono hz))
    replace hz : w.heap.size ≤ w_7.heap.size := by omega
    clear hb za1 ea10 ea11 ea12 ea13 zx1 ex10 ex11 ex12 ex13
    have Ot7 := own; clear own
    have Obt7 := Lib.hid Ot7.bd
    have za1 := Ba1.1
    have ea10 := Ba1.2 0 _ rfl
    have ea11 := Ba1.2 1 _ rfl
    have ea12 := Ba1.2 2 _ rfl
    have ea13 := Ba1.2 3 _ rfl
    have zx1 := Bx1.1
    have ex10 := Bx1.2 0 _ rfl
    have ex11 := Bx1.2 1 _ rfl
    have ex12 := Bx1.2 2 _ rfl
    have ex13 := Bx1.2 3 _ rfl
    go_wp2_with fail
    refine (eqDyePartS_same _ _ _ _ _ _ _ _ xs0 _ Ot4.rd Ot7.rd (Nat.le_refl _) (Nat.le_refl _)).mono ?_
    rintro e w_8 ⟨rfl, hb⟩
    replace Ba1 := Ba1.all hb
    replace Bx1 := Bx1.all hb
    replace R0 := R0.all hb hz
    replace R1 := R1.all hb hz
    replace Ot4 := Ot4.all hb
    replace Ot5 := Ot5.all hb
    replace Ot7 := Ot7.all hb
    have hsw_8 : w_7.heap.size ≤ w_8.heap.size := hb.size
    replace HB := Lib.hid (HB.out.trans (hb.mono hz))
    replace hz : w.heap.size ≤ w_8.heap.size := by omega
    clear hb za1 ea10 ea11 ea12 ea13 zx1 ex10 ex11 ex12 ex13
    clear Ot7 Obt7
    have za1 := Ba1.1
    have ea10 := Ba1.2 0 _ rfl
    have ea11 := Ba1.2 1 _ rfl
    have ea12 := Ba1.2 2 _ rfl
    have ea13 := Ba1.2 3 _ rfl
    have zx1 := Bx1.1
    have ex10 := Bx1.2 0 _ rfl
    have ex11 := Bx1.2 1 _ rfl
    have ex12 := Bx1.2 2 _ rfl
    have ex13 := Bx1.2 3 _ rfl
    go_wp2_with fail
    go_region_held3 (fun w' => w'.cell? ⟨w.heap.size, 0, none⟩ = some (.int .i64 L1) ∧ w'.cell? ⟨w.heap.size, 1, none⟩ = some (.int .i64 T1) ∧ w'.cell? ⟨w.heap.size, 2, none⟩ = some (.int .i64 Y1) ∧ w'.cell? ⟨w.heap.size, 3, none⟩ = some (.slice A1 xs1.length c1) ∧ w'.cell? ⟨w_5.heap.size, 0, none⟩ = some (.int .i64 L1) ∧ w'.cell? ⟨w_5.heap.size, 1, none⟩ = some (.int .i64 T1) ∧ w'.cell? ⟨w_5.heap.size, 2, none⟩ = some (.int .i64 Y1) ∧ w'.cell? ⟨w_5.heap.size, 3, none⟩ = some (.slice (some ⟨g5, 0, none⟩) xs1.length xs1.length)) (first | exact ⟨ea10, ea11, ea12, ea13, ex10, ex11, ex12, ex13⟩ | exact ⟨(hbc _ _ (by omega)).trans ea10, (hbc _ _ (by omega)).trans ea11, (hbc _ _ (by omega)).trans ea12, (hbc _ _ (by omega)).trans ea13, (hbc _ _ (by omega)).trans ex10, (hbc _ _ (by omega)).trans ex11, (hbc _ _ (by omega)).trans ex12, (hbc _ _ (by omega)).trans ex13⟩ | exact ⟨(hbd _ _ (by omega)).trans ((hbc _ _ (by omega)).trans ea10), (hbd _ _ (by omega)).trans ((hbc _ _ (by omega)).trans ea11), (hbd _ _ (by omega)).trans ((hbc _ _ (by omega)).trans ea12), (hbd _ _ (by omega)).trans ((hbc _ _ (by omega)).trans ea13), (hbd _ _ (by omega)).trans ((hbc _ _ (by omega)).trans ex10), (hbd _ _ (by omega)).trans ((hbc _ _ (by omega)).trans ex11), (hbd _ _ (by omega)).trans ((hbc _ _ (by omega)).trans ex12), (hbd _ _ (by omega)).trans ((hbc _ _ (by omega)).trans ex13)⟩) (first | (go_at_call 18; refine (toBath_any L1 T1 Y1 A1 _ c1 _ xs1 _ R1.drew (by first | omega | (simp; done) | (simp; omega)) hn1).mono ?_; rintro e wa ⟨g2, rfl, hown, hb⟩; have hb6 : Below w_8.heap.size w_8 wa := below_drew hb; have hbc : ∀ b o, b < w_8.heap.size → wa.cell? ⟨b, o, none⟩ = w_8.cell? ⟨b, o, none⟩ := (bcell hb6).1; have hz6 : w_8.heap.size ≤ wa.heap.size := hb6.size; have HS6 := Ot5.rd.all hb6 (Nat.le_refl _)) | (go_at_call 20; refine (eqBath_same L1 T1 Y1 _ _ _ _ _ _ _ _ xs1 _ HS6 hown.rd (by omega) (Nat.le_refl _)).mono ?_; rintro e wb ⟨rfl, hb7⟩; have hbd : ∀ b o, b < wa.heap.size → wb.cell? ⟨b, o, none⟩ = wa.cell? ⟨b, o, none⟩ := (bcell hb7).1))
    obtain ⟨w_9, hw⟩ : ∃ w_9, w_9 = wb := ⟨_, rfl⟩
    subst hw
    have hb := hb6.trans (hb7.mono (by omega))
    clear hbd hbc HS6 hown hb6 hb7 hz6
    replace Ba1 := Ba1.all hb
    replace Bx1 := Bx1.all hb
    replace R0 := R0.all hb hz
    replace R1 := R1.all hb hz
    replace Ot4 := Ot4.all hb
    replace Ot5 := Ot5.all hb
    replace HB := Lib.hid (HB.out.trans (hb.mono hz))
    have hsw_9 : w_8.heap.size ≤ w_9.heap.size := hb.size
    replace hz : w.heap.size ≤ w_9.heap.size := Nat.le_trans hz hsw_9
    clear hb za1 ea10 ea11 ea12 ea13 zx1 ex10 ex11 ex12 ex13
    go_wp2_with fail
    go_ret
    exact ⟨rfl, HB.out⟩

set_option maxRecDepth 100000 in
set_option maxHeartbeats 1000000 in
theorem bigA (w : World) (A0 : Option Addr) (n0 c0 : Nat) (xs0 : List DyePartR) (L1 T1 Y1 : Int) (A1 : Option Addr) (n1 c1 : Nat) (xs1 : List Int) (h0 : RdF dyePartL w w.heap.size A0 n0 c0 xs0) (_h1 : Rd w w.heap.size A1 n1 c1 xs1)  (hn : ¬ n0 + bulkDyePart xs0 ≤ 1048576) : Calls Try.prog 6 #[.slice A0 n0 c0, bathV L1 T1 Y1 (.slice A1 n1 c1)] w fun e w' => e = .returned (.bool true) ∧ Below w.heap.size w w' := by
  have hq0 : 0 ≤ ((n0 + bulkDyePart xs0 : Nat) : Int) := by omega
  have hl0 := h0.len_lt
  have HB := (Below.refl w.heap.size w).alloc (Nat.le_refl _) (.cells #[.int .i64 L1, .int .i64 T1, .int .i64 Y1, .slice A1 n1 c1] 31)
  have R0 := h0.alloc (Nat.le_refl _) (.cells #[.int .i64 L1, .int .i64 T1, .int .i64 Y1, .slice A1 n1 c1] 31)
  have hz := HB.size
  go_enter Try.func6, Try.ntmps6
  go_wp2_with fail
  generalize w.alloc (.cells #[.int .i64 L1, .int .i64 T1, .int .i64 Y1, .slice A1 n1 c1] 31) = W1 at *
  refine (szDyePartS_no A0 _ c0 _ xs0 _ _ R0 hz (by omega) (by omega) (by omega)).mono ?_
  rintro e w1 ⟨rfl, hb⟩
  replace HB := HB.trans (hb.mono hz)
  clear hb
  go_wp2_with fail
  go_ret
  exact ⟨rfl, HB⟩
set_option maxRecDepth 100000 in
set_option maxHeartbeats 1000000 in
theorem bigB (w : World) (A0 : Option Addr) (n0 c0 : Nat) (xs0 : List DyePartR) (L1 T1 Y1 : Int) (A1 : Option Addr) (n1 c1 : Nat) (xs1 : List Int) (h0 : RdF dyePartL w w.heap.size A0 n0 c0 xs0) (h1 : Rd w w.heap.size A1 n1 c1 xs1)  (hm : n0 + bulkDyePart xs0 ≤ 1048576) (hn : ¬ n0 + bulkDyePart xs0 + n1 ≤ 1048576) : Calls Try.prog 6 #[.slice A0 n0 c0, bathV L1 T1 Y1 (.slice A1 n1 c1)] w fun e w' => e = .returned (.bool true) ∧ Below w.heap.size w w' := by
  have hq0 : 0 ≤ ((n0 + bulkDyePart xs0 : Nat) : Int) := by omega
  have hl0 := h0.len_lt
  have hl1 := h1.len_lt
  have HB := (Below.refl w.heap.size w).alloc (Nat.le_refl _) (.cells #[.int .i64 L1, .int .i64 T1, .int .i64 Y1, .slice A1 n1 c1] 31)
  have R0 := h0.alloc (Nat.le_refl _) (.cells #[.int .i64 L1, .int .i64 T1, .int .i64 Y1, .slice A1 n1 c1] 31)
  have B1 := Blk.new w #[.int .i64 L1, .int .i64 T1, .int .i64 Y1, .slice A1 n1 c1] 31
  have hz := HB.size
  go_enter Try.func6, Try.ntmps6
  go_wp2_with fail
  generalize w.alloc (.cells #[.int .i64 L1, .int .i64 T1, .int .i64 Y1, .slice A1 n1 c1] 31) = W1 at *
  refine (szDyePartS_yes A0 _ c0 _ xs0 _ _ R0 hz (by omega) (by omega)).mono ?_
  rintro e w1 ⟨rfl, hb⟩
  replace HB := HB.trans (hb.mono hz)
  replace B1 := B1.all hb
  clear hb
  have e0 := B1.cell 0
  have e1 := B1.cell 1
  have e2 := B1.cell 2
  have e3 := B1.cell 3
  go_wp2_with fail
  refine (szBath_over L1 T1 Y1 A1 n1 c1 _ _ (by omega) (by omega) (by omega) hl1).mono ?_
  rintro e w2 ⟨rfl, hb⟩
  replace HB := HB.trans (hb.mono HB.size)
  clear hb
  go_wp2_with fail
  go_ret
  exact ⟨rfl, HB⟩
theorem walk (w : World) (A0 : Option Addr) (n0 c0 : Nat) (xs0 : List DyePartR) (L1 T1 Y1 : Int) (A1 : Option Addr) (n1 c1 : Nat) (xs1 : List Int) (h0 : RdF dyePartL w w.heap.size A0 n0 c0 xs0) (h1 : Rd w w.heap.size A1 n1 c1 xs1)   : Calls Try.prog 6 #[.slice A0 n0 c0, bathV L1 T1 Y1 (.slice A1 n1 c1)] w fun e w' => e = .returned (.bool true) ∧ Below w.heap.size w w' := by
  have l0 := h0.len
  have l1 := h1.len
  by_cases hm : n0 + bulkDyePart xs0 ≤ 1048576
  · by_cases hn : n0 + bulkDyePart xs0 + n1 ≤ 1048576
    · exact core w A0 n0 c0 xs0 L1 T1 Y1 A1 n1 c1 xs1 h0 h1 hn _ _  (Lib.hid (fun w A0 c0 A1 c1 r0 r1 => specIsReady_any A0 _ c0 _ xs0 L1 T1 Y1 A1 _ c1 _ xs1 w r0 (Nat.le_refl _) r1 (Nat.le_refl _))) (Lib.hid (fun w A0 c0 A1 c1 r0 r1 => implIsReady_any A0 _ c0 _ xs0 L1 T1 Y1 A1 _ c1 _ xs1 w r0 (Nat.le_refl _) r1 (Nat.le_refl _)))
    · exact bigB w A0 n0 c0 xs0 L1 T1 Y1 A1 n1 c1 xs1 h0 h1 hm hn
  · exact bigA w A0 n0 c0 xs0 L1 T1 Y1 A1 n1 c1 xs1 h0 h1 hm
end Go.Proofs.Ytadlgiecceohbaa.isReady
