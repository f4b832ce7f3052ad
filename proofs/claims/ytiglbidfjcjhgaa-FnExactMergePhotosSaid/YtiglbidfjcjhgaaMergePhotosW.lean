/- The walk of the law FnExactMergePhotos. No condition. -/
import Derived.Test.YtiglbidfjcjhgaaTwo
import Derived.Test.YtiglbidfjcjhgaaMergeI
import Derived.Test.YtiglbidfjcjhgaaMergeS
import Derived.Deep.DeepCutAuto
namespace Go.Proofs.Ytiglbidfjcjhgaa.mergePhotos
open Go.RowKit

set_option maxRecDepth 100000 in
set_option maxHeartbeats 8000000 in
theorem core (w : World) (W0 H0 : Int) (A0 : Option Addr) (n0 c0 : Nat) (xs0 : List Int) (W1 H1 : Int) (A1 : Option Addr) (n1 c1 : Nat) (xs1 : List Int) (W2 H2 : Int) (A2 : Option Addr) (n2 c2 : Nat) (xs2 : List Int) (h0 : Rd w w.heap.size A0 n0 c0 xs0) (h1 : Rd w w.heap.size A1 n1 c1 xs1) (h2 : Rd w w.heap.size A2 n2 c2 xs2) (hn0 : n0 ≤ 1048576) (hn1 : n1 ≤ 1048576) (hn2 : n2 ≤ 1048576) (hn : n0 + n1 + n2 ≤ 1048576) (rW rH : Int) (ys : List Int) (ok : Bool) (hl : ys.length ≤ 1048576) (hspec : Hid (∀ (w : World) (A0 : Option Addr) (c0 : Nat) (A1 : Option Addr) (c1 : Nat) (A2 : Option Addr) (c2 : Nat), Rd w w.heap.size A0 xs0.length c0 xs0 → Rd w w.heap.size A1 xs1.length c1 xs1 → Rd w w.heap.size A2 xs2.length c2 xs2 → Calls Try.prog 36 #[chartV W0 H0 (.slice A0 xs0.length c0), chartV W1 H1 (.slice A1 xs1.length c1), chartV W2 H2 (.slice A2 xs2.length c2)] w (OutChart w rW rH ys ok))) (himpl : Hid (∀ (w : World) (A0 : Option Addr) (c0 : Nat) (A1 : Option Addr) (c1 : Nat) (A2 : Option Addr) (c2 : Nat), Rd w w.heap.size A0 xs0.length c0 xs0 → Rd w w.heap.size A1 xs1.length c1 xs1 → Rd w w.heap.size A2 xs2.length c2 xs2 → Calls Try.prog 37 #[chartV W0 H0 (.slice A0 xs0.length c0), chartV W1 H1 (.slice A1 xs1.length c1), chartV W2 H2 (.slice A2 xs2.length c2)] w (OutChart w rW rH ys ok))) :
    Calls Try.prog 10 #[chartV W0 H0 (.slice A0 n0 c0), chartV W1 H1 (.slice A1 n1 c1), chartV W2 H2 (.slice A2 n2 c2)] w fun e w' => e = .returned (.bool true) ∧ Below w.heap.size w w' := by
  have HB := Lib.hid (Below.refl w.heap.size w)
  have hz : w.heap.size ≤ w.heap.size := Nat.le_refl _
  have R0 := h0; have hl0 := h0.len; subst hl0; clear h0
  have R1 := h1; have hl1 := h1.len; subst hl1; clear h1
  have R2 := h2; have hl2 := h2.len; subst hl2; clear h2
  go_enter Try.func10, Try.ntmps10
  go_wp2_with fail
  refine (szChart_ok W0 H0 A0 _ c0 _ hn0).mono ?_
  rintro e w_1 ⟨rfl, hb⟩
  have hb0 := hb
  replace hb := ((((Below.refl w.heap.size w).alloc (by first | (simp; done) | (simp; omega)) _).alloc (by first | (simp; done) | (simp; omega)) _).alloc (by first | (simp; done) | (simp; omega)) _).trans (hb0.mono (by first | omega | (simp; done) | (simp; omega)))
  replace R0 := R0.all hb hz
  replace R1 := R1.all hb hz
  replace R2 := R2.all hb hz
  have Ba0 := (((Box.new w #[.int .i64 W0, .int .i64 H0, .slice A0 xs0.length c0] 24).all ((Below.refl _ _).alloc (Nat.le_refl _) _)).all ((Below.refl _ _).alloc (Nat.le_refl _) _)).all hb0
  have Ba1 := ((Box.new (w.alloc (.cells #[.int .i64 W0, .int .i64 H0, .slice A0 xs0.length c0] 24)) #[.int .i64 W1, .int .i64 H1, .slice A1 xs1.length c1] 24).all ((Below.refl _ _).alloc (Nat.le_refl _) _)).all hb0
  rw [show (w.alloc (.cells #[.int .i64 W0, .int .i64 H0, .slice A0 xs0.length c0] 24)).heap.size = w.heap.size + 1 by simp] at Ba1
  have Ba2 := (Box.new ((w.alloc (.cells #[.int .i64 W0, .int .i64 H0, .slice A0 xs0.length c0] 24)).alloc (.cells #[.int .i64 W1, .int .i64 H1, .slice A1 xs1.length c1] 24)) #[.int .i64 W2, .int .i64 H2, .slice A2 xs2.length c2] 24).all hb0
  rw [show ((w.alloc (.cells #[.int .i64 W0, .int .i64 H0, .slice A0 xs0.length c0] 24)).alloc (.cells #[.int .i64 W1, .int .i64 H1, .slice A1 xs1.length c1] 24)).heap.size = w.heap.size + 2 by simp] at Ba2
  have hsw_1 : w.heap.size + 3 ≤ w_1.heap.size := by have := hb0.size; simp at this; omega
  clear hb0
  replace HB := Lib.hid (HB.out.trans (hb.mono hz))
  replace hz : w.heap.size ≤ w_1.heap.size := by omega
  clear hb
  have za0 := Ba0.1
  have ea00 := Ba0.2 0 _ rfl
  have ea01 := Ba0.2 1 _ rfl
  have ea02 := Ba0.2 2 _ rfl
  have za1 := Ba1.1
  have ea10 := Ba1.2 0 _ rfl
  have ea11 := Ba1.2 1 _ rfl
  have ea12 := Ba1.2 2 _ rfl
  have za2 := Ba2.1
  have ea20 := Ba2.2 0 _ rfl
  have ea21 := Ba2.2 1 _ rfl
  have ea22 := Ba2.2 2 _ rfl
  go_wp2_with fail
  refine (szChart_rest W1 H1 A1 _ c1 _ _ (by omega) (by omega)).mono ?_
  rintro e w_2 ⟨rfl, hb⟩
  replace Ba0 := Ba0.all hb
  replace Ba1 := Ba1.all hb
  replace Ba2 := Ba2.all hb
  replace R0 := R0.all hb hz
  replace R1 := R1.all hb hz
  replace R2 := R2.all hb hz
  have hsw_2 : w_1.heap.size ≤ w_2.heap.size := hb.size
  replace HB := Lib.hid (HB.out.trans (hb.mono hz))
  replace hz : w.heap.size ≤ w_2.heap.size := by omega
  clear hb za0 ea00 ea01 ea02 za1 ea10 ea11 ea12 za2 ea20 ea21 ea22
  have za0 := Ba0.1
  have ea00 := Ba0.2 0 _ rfl
  have ea01 := Ba0.2 1 _ rfl
  have ea02 := Ba0.2 2 _ rfl
  have za1 := Ba1.1
  have ea10 := Ba1.2 0 _ rfl
  have ea11 := Ba1.2 1 _ rfl
  have ea12 := Ba1.2 2 _ rfl
  have za2 := Ba2.1
  have ea20 := Ba2.2 0 _ rfl
  have ea21 := Ba2.2 1 _ rfl
  have ea22 := Ba2.2 2 _ rfl
  go_wp2_with fail
  refine (szChart_rest W2 H2 A2 _ c2 _ _ (by omega) (by omega)).mono ?_
  rintro e w_3 ⟨rfl, hb⟩
  replace Ba0 := Ba0.all hb
  replace Ba1 := Ba1.all hb
  replace Ba2 := Ba2.all hb
  replace R0 := R0.all hb hz
  replace R1 := R1.all hb hz
  replace R2 := R2.all hb hz
  have hsw_3 : w_2.heap.size ≤ w_3.heap.size := hb.size
  replace HB := Lib.hid (HB.out.trans (hb.mono hz))
  replace hz : w.heap.size ≤ w_3.heap.size := by omega
  clear hb za0 ea00 ea01 ea02 za1 ea10 ea11 ea12 za2 ea20 ea21 ea22
  have za0 := Ba0.1
  have ea00 := Ba0.2 0 _ rfl
  have ea01 := Ba0.2 1 _ rfl
  have ea02 := Ba0.2 2 _ rfl
  have za1 := Ba1.1
  have ea10 := Ba1.2 0 _ rfl
  have ea11 := Ba1.2 1 _ rfl
  have ea12 := Ba1.2 2 _ rfl
  have za2 := Ba2.1
  have ea20 := Ba2.2 0 _ rfl
  have ea21 := Ba2.2 1 _ rfl
  have ea22 := Ba2.2 2 _ rfl
  go_wp2_with fail
  go_cut [8, 9] (fun sp sk wx => ∃ (q : Nat) (A : Option Addr) (c : Nat), sp = .pointer (some ⟨q, 0, none⟩) ∧ sk = .bool ok ∧ w_3.heap.size ≤ q ∧ Box wx q [.int .i64 rW, .int .i64 rH, .slice A ys.length c] ∧ Own wx w_3.heap.size (.slice A ys.length c) ys ∧ Below w_3.heap.size w_3 wx)
  case first =>
    refine wp_region_noPanic ?_
    refine wp_region_held_drew (S := (fun w' => w'.cell? ⟨w.heap.size, 0, none⟩ = some (.int .i64 W0) ∧ w'.cell? ⟨w.heap.size, 1, none⟩ = some (.int .i64 H0) ∧ w'.cell? ⟨w.heap.size, 2, none⟩ = some (.slice A0 xs0.length c0) ∧ w'.cell? ⟨w.heap.size + 1, 0, none⟩ = some (.int .i64 W1) ∧ w'.cell? ⟨w.heap.size + 1, 1, none⟩ = some (.int .i64 H1) ∧ w'.cell? ⟨w.heap.size + 1, 2, none⟩ = some (.slice A1 xs1.length c1) ∧ w'.cell? ⟨w.heap.size + 2, 0, none⟩ = some (.int .i64 W2) ∧ w'.cell? ⟨w.heap.size + 2, 1, none⟩ = some (.int .i64 H2) ∧ w'.cell? ⟨w.heap.size + 2, 2, none⟩ = some (.slice A2 xs2.length c2))) (by kernel_rfl) (by go_keep) (fun hHeld => ?_)
    refine wpAnyH_take (i := 0) (v := ?_) rfl (by kernel_rfl) (by kernel_rfl) (by kernel_rfl) (fun _ _ _ h => h) (Or.inl ⟨by rfl, ?_⟩) (by assumption) ?_
    rotate_left
    · intro w hSw; (try dsimp only at hSw); go_simp; (try with_reducible rfl)
    (try simp only [Act.put, List.getElem_toArray, List.getElem_cons_zero, List.setIfInBounds_toArray, List.set_cons_zero, List.set_cons_succ])
    refine wpAnyH_take (i := 2) (v := ?_) rfl (by kernel_rfl) (by kernel_rfl) (by kernel_rfl) (fun _ _ _ h => h) (Or.inl ⟨by rfl, ?_⟩) (by assumption) ?_
    rotate_left
    · intro w hSw; (try dsimp only at hSw); go_simp; (try with_reducible rfl)
    (try simp only [Act.put, List.getElem_toArray, List.getElem_cons_zero, List.getElem_cons_succ, List.setIfInBounds_toArray, List.set_cons_zero, List.set_cons_succ])
    refine wpAnyH_take (i := 4) (v := ?_) rfl (by kernel_rfl) (by kernel_rfl) (by kernel_rfl) (fun _ _ _ h => h) (Or.inl ⟨by rfl, ?_⟩) (by assumption) ?_
    rotate_left
    · intro w hSw; (try dsimp only at hSw); go_simp; (try with_reducible rfl)
    (try simp only [Act.put, List.getElem_toArray, List.getElem_cons_zero, List.getElem_cons_succ, List.setIfInBounds_toArray, List.set_cons_zero, List.set_cons_succ])
    have HB0 := belowD (Below.refl w_3.heap.size w_3)
    clear hHeld
    refine wpAnyH_ready (rs := [1, 10]) (by kernel_rfl) (by simp) ?_
    refine AllReadyH.cons rfl (fun K hK => ?_) ?_
    · go_simp
      refine (toChart_any W0 H0 A0 _ c0 w.heap.size xs0 _ (R0.below HB0 hz) (Nat.le_trans hz HB0.size) hn0).mono ?_
      rintro e wq1 ⟨gd0, rfl, own, hb⟩
      have HB1 := HB0.trans (hb.mono HB0.size)
      have O1_0 := own.mono HB0.size
      clear own hb
      refine hK.out _ _ (by exact ⟨cells_of HB1 ea00 za0, cells_of HB1 ea01 za0, cells_of HB1 ea02 za0, cells_of HB1 ea10 za1, cells_of HB1 ea11 za1, cells_of HB1 ea12 za1, cells_of HB1 ea20 za2, cells_of HB1 ea21 za2, cells_of HB1 ea22 za2⟩) (fun hHeld => ?_)
      clear hK K hHeld
      (try simp only [Act.put, List.getElem_toArray, List.getElem_cons_zero, List.getElem_cons_succ, List.setIfInBounds_toArray, List.set_cons_zero, List.set_cons_succ])
      refine wpAnyH_ready (rs := [3, 10]) (by kernel_rfl) (by simp) ?_
      refine AllReadyH.cons rfl (fun K hK => ?_) ?_
      · go_simp
        refine (toChart_any W1 H1 A1 _ c1 w.heap.size xs1 _ (R1.below HB1 hz) (Nat.le_trans hz HB1.size) hn1).mono ?_
        rintro e wq2 ⟨gd1, rfl, own, hb⟩
        have HB2 := HB1.trans (hb.mono HB1.size)
        have O2_0 := O1_0.all hb
        have O2_1 := own.mono HB1.size
        clear own hb
        refine hK.out _ _ (by exact ⟨cells_of HB2 ea00 za0, cells_of HB2 ea01 za0, cells_of HB2 ea02 za0, cells_of HB2 ea10 za1, cells_of HB2 ea11 za1, cells_of HB2 ea12 za1, cells_of HB2 ea20 za2, cells_of HB2 ea21 za2, cells_of HB2 ea22 za2⟩) (fun hHeld => ?_)
        clear hK K hHeld
        (try simp only [Act.put, List.getElem_toArray, List.getElem_cons_zero, List.getElem_cons_succ, List.setIfInBounds_toArray, List.set_cons_zero, List.set_cons_succ])
        refine wpAnyH_ready (rs := [5, 10]) (by kernel_rfl) (by simp) ?_
        refine AllReadyH.cons rfl (fun K hK => ?_) ?_
        · go_simp
          refine (toChart_any W2 H2 A2 _ c2 w.heap.size xs2 _ (R2.below HB2 hz) (Nat.le_trans hz HB2.size) hn2).mono ?_
          rintro e wq3 ⟨gd2, rfl, own, hb⟩
          have HB3 := HB2.trans (hb.mono HB2.size)
          have O3_0 := O2_0.all hb
          have O3_1 := O2_1.all hb
          have O3_2 := own.mono HB2.size
          clear own hb
          refine hK.out _ _ (by exact ⟨cells_of HB3 ea00 za0, cells_of HB3 ea01 za0, cells_of HB3 ea02 za0, cells_of HB3 ea10 za1, cells_of HB3 ea11 za1, cells_of HB3 ea12 za1, cells_of HB3 ea20 za2, cells_of HB3 ea21 za2, cells_of HB3 ea22 za2⟩) (fun hHeld => ?_)
          clear hK K hHeld
          (try simp only [Act.put, List.getElem_toArray, List.getElem_cons_zero, List.getElem_cons_succ, List.setIfInBounds_toArray, List.set_cons_zero, List.set_cons_succ])
          refine wpAnyH_ready (rs := [6, 10]) (by kernel_rfl) (by simp) ?_
          refine AllReadyH.cons rfl (fun K hK => ?_) ?_
          · go_simp
            refine (hspec.out _ _ _ _ _ _ _ O3_0.rd O3_1.rd O3_2.rd).mono ?_
            rintro e wq4 ⟨Ar, cr, rfl, own, hb⟩
            have HB4 := HB3.trans (hb.mono HB3.size)
            have OF4 := own.mono HB3.size
            clear hb
            refine hK.out _ _ (by exact ⟨cells_of HB4 ea00 za0, cells_of HB4 ea01 za0, cells_of HB4 ea02 za0, cells_of HB4 ea10 za1, cells_of HB4 ea11 za1, cells_of HB4 ea12 za1, cells_of HB4 ea20 za2, cells_of HB4 ea21 za2, cells_of HB4 ea22 za2⟩) (fun hHeld => ?_)
            clear hK K
            (try simp only [Act.put, List.getElem_toArray, List.getElem_cons_zero, List.getElem_cons_succ, List.setIfInBounds_toArray, List.set_cons_zero, List.set_cons_succ])
            refine wpAnyH_take (i := 7) (v := ?_) rfl (by kernel_rfl) (by kernel_rfl) (by kernel_rfl) (fun _ _ _ h => h) (Or.inl ⟨by rfl, ?_⟩) (by assumption) ?_
            rotate_left
            · intro w hSw; (try dsimp only at hSw); go_simp; (try with_reducible rfl)
            (try simp only [Act.put, List.getElem_toArray, List.getElem_cons_zero, List.getElem_cons_succ, List.setIfInBounds_toArray, List.set_cons_zero, List.set_cons_succ])
            refine wpAnyH_take (i := 8) (v := ?_) rfl (by kernel_rfl) (by kernel_rfl) (by kernel_rfl) (fun _ _ _ h => h) (Or.inl ⟨by rfl, ?_⟩) (by assumption) ?_
            rotate_left
            · intro w hSw; (try dsimp only at hSw); go_simp; (try with_reducible rfl)
            (try simp only [Act.put, List.getElem_toArray, List.getElem_cons_zero, List.getElem_cons_succ, List.setIfInBounds_toArray, List.set_cons_zero, List.set_cons_succ])
            refine wpAnyH_take (i := 9) (v := ?_) rfl (by kernel_rfl) (by kernel_rfl) (by kernel_rfl) (fun _ _ _ h => h) (Or.inl ⟨by rfl, ?_⟩) (by assumption) ?_
            rotate_left
            · intro w hSw; (try dsimp only at hSw); go_simp; (try with_reducible rfl)
            (try simp only [Act.put, List.getElem_toArray, List.getElem_cons_zero, List.getElem_cons_succ, List.setIfInBounds_toArray, List.set_cons_zero, List.set_cons_succ])
            clear hHeld
            refine wpAnyH_ready (rs := [10]) (by kernel_rfl) (by simp) ?_
            refine AllReadyH.cons rfl (fun K hK => ?_) ?_
            · go_simp
              have HB5 := HB4.alloc HB4.size (.cells #[.int .i64 0, .int .i64 0, .slice none 0 0] 28)
              have O5_0 := O3_0.alloc (.cells #[.int .i64 0, .int .i64 0, .slice none 0 0] 28)
              have O5_1 := O3_1.alloc (.cells #[.int .i64 0, .int .i64 0, .slice none 0 0] 28)
              have O5_2 := O3_2.alloc (.cells #[.int .i64 0, .int .i64 0, .slice none 0 0] 28)
              have OF5 := OF4.alloc (.cells #[.int .i64 0, .int .i64 0, .slice none 0 0] 28)
              have Z5 : Blk _ wq4.heap.size _ _ := Blk.new wq4 #[.int .i64 0, .int .i64 0, .slice none 0 0] 28
              have hq5 : w_3.heap.size ≤ wq4.heap.size := HB4.size
              refine hK.out _ _ (by exact ⟨cells_of HB5 ea00 za0, cells_of HB5 ea01 za0, cells_of HB5 ea02 za0, cells_of HB5 ea10 za1, cells_of HB5 ea11 za1, cells_of HB5 ea12 za1, cells_of HB5 ea20 za2, cells_of HB5 ea21 za2, cells_of HB5 ea22 za2⟩) (fun hHeld => ?_)
              clear hK K hHeld
              (try simp only [Act.put, List.getElem_toArray, List.getElem_cons_zero, List.getElem_cons_succ, List.setIfInBounds_toArray, List.set_cons_zero, List.set_cons_succ])
              refine wpAnyH_ready (rs := [11]) (by kernel_rfl) (by simp) ?_
              refine AllReadyH.cons rfl (fun K hK => ?_) ?_
              · go_simp
                have HB6 := HB4.alloc HB4.size (.cells #[.int .i64 rW, .int .i64 rH, .slice Ar ys.length cr] 28)
                have OF6 := OF4.alloc (.cells #[.int .i64 rW, .int .i64 rH, .slice Ar ys.length cr] 28)
                have Z6 := Blk.new wq4 #[.int .i64 rW, .int .i64 rH, .slice Ar ys.length cr] 28
                refine hK.out _ _ (by exact ⟨cells_of HB6 ea00 za0, cells_of HB6 ea01 za0, cells_of HB6 ea02 za0, cells_of HB6 ea10 za1, cells_of HB6 ea11 za1, cells_of HB6 ea12 za1, cells_of HB6 ea20 za2, cells_of HB6 ea21 za2, cells_of HB6 ea22 za2⟩) (fun hHeld => ?_)
                clear hK K
                (try simp only [Act.put, List.getElem_toArray, List.getElem_cons_zero, List.getElem_cons_succ, List.setIfInBounds_toArray, List.set_cons_zero, List.set_cons_succ])
                refine wpAnyH_take (i := 12) (v := ?_) rfl (by kernel_rfl) (by kernel_rfl) (by kernel_rfl) (fun _ _ _ h => h) (Or.inl ⟨by rfl, ?_⟩) (by assumption) ?_
                rotate_left
                · intro w hSw; (try dsimp only at hSw); go_simp; (try with_reducible rfl)
                (try simp only [Act.put, List.getElem_toArray, List.getElem_cons_zero, List.getElem_cons_succ, List.setIfInBounds_toArray, List.set_cons_zero, List.set_cons_succ])
                clear hHeld
                refine wpAnyH_done (by kernel_rfl) ?_ _
                refine NoPanic.normal ?_
                go_wp2_with fail
                go_meet
                exact ⟨wq4.heap.size, Ar, cr, rfl, rfl, hq5, Z6.box, OF6, HB6⟩
              exact AllReadyH.nil
            exact AllReadyH.nil
          refine AllReadyH.cons rfl (fun K hK => ?_) ?_
          · go_simp
            have HB7 := HB3.alloc HB3.size (.cells #[.int .i64 0, .int .i64 0, .slice none 0 0] 28)
            have O7_0 := O3_0.alloc (.cells #[.int .i64 0, .int .i64 0, .slice none 0 0] 28)
            have O7_1 := O3_1.alloc (.cells #[.int .i64 0, .int .i64 0, .slice none 0 0] 28)
            have O7_2 := O3_2.alloc (.cells #[.int .i64 0, .int .i64 0, .slice none 0 0] 28)
            have Z7 : Blk _ wq3.heap.size _ _ := Blk.new wq3 #[.int .i64 0, .int .i64 0, .slice none 0 0] 28
            have hq7 : w_3.heap.size ≤ wq3.heap.size := HB3.size
            refine hK.out _ _ (by exact ⟨cells_of HB7 ea00 za0, cells_of HB7 ea01 za0, cells_of HB7 ea02 za0, cells_of HB7 ea10 za1, cells_of HB7 ea11 za1, cells_of HB7 ea12 za1, cells_of HB7 ea20 za2, cells_of HB7 ea21 za2, cells_of HB7 ea22 za2⟩) (fun hHeld => ?_)
            clear hK K hHeld
            (try simp only [Act.put, List.getElem_toArray, List.getElem_cons_zero, List.getElem_cons_succ, List.setIfInBounds_toArray, List.set_cons_zero, List.set_cons_succ])
            refine wpAnyH_ready (rs := [6]) (by kernel_rfl) (by simp) ?_
            refine AllReadyH.cons rfl (fun K hK => ?_) ?_
            · go_simp
              refine (hspec.out _ _ _ _ _ _ _ O7_0.rd O7_1.rd O7_2.rd).mono ?_
              rintro e wq8 ⟨Ar, cr, rfl, own, hb⟩
              have HB8 := HB7.trans (hb.mono HB7.size)
              have Z8 := Z7.all hb
              have OF8 := own.mono HB7.size
              clear hb
              refine hK.out _ _ (by exact ⟨cells_of HB8 ea00 za0, cells_of HB8 ea01 za0, cells_of HB8 ea02 za0, cells_of HB8 ea10 za1, cells_of HB8 ea11 za1, cells_of HB8 ea12 za1, cells_of HB8 ea20 za2, cells_of HB8 ea21 za2, cells_of HB8 ea22 za2⟩) (fun hHeld => ?_)
              clear hK K
              (try simp only [Act.put, List.getElem_toArray, List.getElem_cons_zero, List.getElem_cons_succ, List.setIfInBounds_toArray, List.set_cons_zero, List.set_cons_succ])
              refine wpAnyH_take (i := 7) (v := ?_) rfl (by kernel_rfl) (by kernel_rfl) (by kernel_rfl) (fun _ _ _ h => h) (Or.inl ⟨by rfl, ?_⟩) (by assumption) ?_
              rotate_left
              · intro w hSw; (try dsimp only at hSw); go_simp; (try with_reducible rfl)
              (try simp only [Act.put, List.getElem_toArray, List.getElem_cons_zero, List.getElem_cons_succ, List.setIfInBounds_toArray, List.set_cons_zero, List.set_cons_succ])
              refine wpAnyH_take (i := 8) (v := ?_) rfl (by kernel_rfl) (by kernel_rfl) (by kernel_rfl) (fun _ _ _ h => h) (Or.inl ⟨by rfl, ?_⟩) (by assumption) ?_
              rotate_left
              · intro w hSw; (try dsimp only at hSw); go_simp; (try with_reducible rfl)
              (try simp only [Act.put, List.getElem_toArray, List.getElem_cons_zero, List.getElem_cons_succ, List.setIfInBounds_toArray, List.set_cons_zero, List.set_cons_succ])
              refine wpAnyH_take (i := 9) (v := ?_) rfl (by kernel_rfl) (by kernel_rfl) (by kernel_rfl) (fun _ _ _ h => h) (Or.inl ⟨by rfl, ?_⟩) (by assumption) ?_
              rotate_left
              · intro w hSw; (try dsimp only at hSw); go_simp; (try with_reducible rfl)
              (try simp only [Act.put, List.getElem_toArray, List.getElem_cons_zero, List.getElem_cons_succ, List.setIfInBounds_toArray, List.set_cons_zero, List.set_cons_succ])
              clear hHeld
              refine wpAnyH_ready (rs := [11]) (by kernel_rfl) (by simp) ?_
              refine AllReadyH.cons rfl (fun K hK => ?_) ?_
              · have zz0 := Z8.cell 0
                have zz1 := Z8.cell 1
                have zz2 := Z8.cell 2
                have zf0 := Z8.frozen 0
                have zf1 := Z8.frozen 1
                have zf2 := Z8.frozen 2
                go_simp
                have HB9 := (((HB8.setCell (p := ⟨wq3.heap.size, 0, none⟩) hq7 (.int .i64 rW)).setCell (p := ⟨wq3.heap.size, 1, none⟩) hq7 (.int .i64 rH)).setCell (p := ⟨wq3.heap.size, 2, none⟩) hq7 (.slice Ar ys.length cr))
                have hne9 := row_ne' OF8.1 Z8 (by decide)
                have OF9 := (((OF8.far (a := ⟨wq3.heap.size, 0, none⟩) hne9 (.int .i64 rW)).far (a := ⟨wq3.heap.size, 1, none⟩) hne9 (.int .i64 rH)).far (a := ⟨wq3.heap.size, 2, none⟩) hne9 (.slice Ar ys.length cr))
                have Z9 : Blk _ _ _ #[.int .i64 rW, .int .i64 rH, .slice Ar ys.length cr] := Z8.put3t
                clear zz0 zz1 zz2 zf0 zf1 zf2
                refine hK.out _ _ (by exact ⟨cells_of HB9 ea00 za0, cells_of HB9 ea01 za0, cells_of HB9 ea02 za0, cells_of HB9 ea10 za1, cells_of HB9 ea11 za1, cells_of HB9 ea12 za1, cells_of HB9 ea20 za2, cells_of HB9 ea21 za2, cells_of HB9 ea22 za2⟩) (fun hHeld => ?_)
                clear hK K
                (try simp only [Act.put, List.getElem_toArray, List.getElem_cons_zero, List.getElem_cons_succ, List.setIfInBounds_toArray, List.set_cons_zero, List.set_cons_succ])
                refine wpAnyH_take (i := 12) (v := ?_) rfl (by kernel_rfl) (by kernel_rfl) (by kernel_rfl) (fun _ _ _ h => h) (Or.inl ⟨by rfl, ?_⟩) (by assumption) ?_
                rotate_left
                · intro w hSw; (try dsimp only at hSw); go_simp; (try with_reducible rfl)
                (try simp only [Act.put, List.getElem_toArray, List.getElem_cons_zero, List.getElem_cons_succ, List.setIfInBounds_toArray, List.set_cons_zero, List.set_cons_succ])
                clear hHeld
                refine wpAnyH_done (by kernel_rfl) ?_ _
                refine NoPanic.normal ?_
                go_wp2_with fail
                go_meet
                exact ⟨wq3.heap.size, Ar, cr, rfl, rfl, hq7, Z9.box, OF9, HB9⟩
              exact AllReadyH.nil
            exact AllReadyH.nil
          exact AllReadyH.nil
        refine AllReadyH.cons rfl (fun K hK => ?_) ?_
        · go_simp
          have HB10 := HB2.alloc HB2.size (.cells #[.int .i64 0, .int .i64 0, .slice none 0 0] 28)
          have O10_0 := O2_0.alloc (.cells #[.int .i64 0, .int .i64 0, .slice none 0 0] 28)
          have O10_1 := O2_1.alloc (.cells #[.int .i64 0, .int .i64 0, .slice none 0 0] 28)
          have Z10 : Blk _ wq2.heap.size _ _ := Blk.new wq2 #[.int .i64 0, .int .i64 0, .slice none 0 0] 28
          have hq10 : w_3.heap.size ≤ wq2.heap.size := HB2.size
          refine hK.out _ _ (by exact ⟨cells_of HB10 ea00 za0, cells_of HB10 ea01 za0, cells_of HB10 ea02 za0, cells_of HB10 ea10 za1, cells_of HB10 ea11 za1, cells_of HB10 ea12 za1, cells_of HB10 ea20 za2, cells_of HB10 ea21 za2, cells_of HB10 ea22 za2⟩) (fun hHeld => ?_)
          clear hK K hHeld
          (try simp only [Act.put, List.getElem_toArray, List.getElem_cons_zero, List.getElem_cons_succ, List.setIfInBounds_toArray, List.set_cons_zero, List.set_cons_succ])
          refine wpAnyH_ready (rs := [5]) (by kernel_rfl) (by simp) ?_
          refine AllReadyH.cons rfl (fun K hK => ?_) ?_
          · go_simp
            refine (toChart_any W2 H2 A2 _ c2 w.heap.size xs2 _ (R2.below HB10 hz) (Nat.le_trans hz HB10.size) hn2).mono ?_
            rintro e wq11 ⟨gd2, rfl, own, hb⟩
            have HB11 := HB10.trans (hb.mono HB10.size)
            have O11_0 := O10_0.all hb
            have O11_1 := O10_1.all hb
            have O11_2 := own.mono HB10.size
            have Z11 := Z10.all hb
            clear own hb
            refine hK.out _ _ (by exact ⟨cells_of HB11 ea00 za0, cells_of HB11 ea01 za0, cells_of HB11 ea02 za0, cells_of HB11 ea10 za1, cells_of HB11 ea11 za1, cells_of HB11 ea12 za1, cells_of HB11 ea20 za2, cells_of HB11 ea21 za2, cells_of HB11 ea22 za2⟩) (fun hHeld => ?_)
            clear hK K hHeld
            (try simp only [Act.put, List.getElem_toArray, List.getElem_cons_zero, List.getElem_cons_succ, List.setIfInBounds_toArray, List.set_cons_zero, List.set_cons_succ])
            refine wpAnyH_ready (rs := [6]) (by kernel_rfl) (by simp) ?_
            refine AllReadyH.cons rfl (fun K hK => ?_) ?_
            · go_simp
              refine (hspec.out _ _ _ _ _ _ _ O11_0.rd O11_1.rd O11_2.rd).mono ?_
              rintro e wq12 ⟨Ar, cr, rfl, own, hb⟩
              have HB12 := HB11.trans (hb.mono HB11.size)
              have Z12 := Z11.all hb
              have OF12 := own.mono HB11.size
              clear hb
              refine hK.out _ _ (by exact ⟨cells_of HB12 ea00 za0, cells_of HB12 ea01 za0, cells_of HB12 ea02 za0, cells_of HB12 ea10 za1, cells_of HB12 ea11 za1, cells_of HB12 ea12 za1, cells_of HB12 ea20 za2, cells_of HB12 ea21 za2, cells_of HB12 ea22 za2⟩) (fun hHeld => ?_)
              clear hK K
              (try simp only [Act.put, List.getElem_toArray, List.getElem_cons_zero, List.getElem_cons_succ, List.setIfInBounds_toArray, List.set_cons_zero, List.set_cons_succ])
              refine wpAnyH_take (i := 7) (v := ?_) rfl (by kernel_rfl) (by kernel_rfl) (by kernel_rfl) (fun _ _ _ h => h) (Or.inl ⟨by rfl, ?_⟩) (by assumption) ?_
              rotate_left
              · intro w hSw; (try dsimp only at hSw); go_simp; (try with_reducible rfl)
              (try simp only [Act.put, List.getElem_toArray, List.getElem_cons_zero, List.getElem_cons_succ, List.setIfInBounds_toArray, List.set_cons_zero, List.set_cons_succ])
              refine wpAnyH_take (i := 8) (v := ?_) rfl (by kernel_rfl) (by kernel_rfl) (by kernel_rfl) (fun _ _ _ h => h) (Or.inl ⟨by rfl, ?_⟩) (by assumption) ?_
              rotate_left
              · intro w hSw; (try dsimp only at hSw); go_simp; (try with_reducible rfl)
              (try simp only [Act.put, List.getElem_toArray, List.getElem_cons_zero, List.getElem_cons_succ, List.setIfInBounds_toArray, List.set_cons_zero, List.set_cons_succ])
              refine wpAnyH_take (i := 9) (v := ?_) rfl (by kernel_rfl) (by kernel_rfl) (by kernel_rfl) (fun _ _ _ h => h) (Or.inl ⟨by rfl, ?_⟩) (by assumption) ?_
              rotate_left
              · intro w hSw; (try dsimp only at hSw); go_simp; (try with_reducible rfl)
              (try simp only [Act.put, List.getElem_toArray, List.getElem_cons_zero, List.getElem_cons_succ, List.setIfInBounds_toArray, List.set_cons_zero, List.set_cons_succ])
              clear hHeld
              refine wpAnyH_ready (rs := [11]) (by kernel_rfl) (by simp) ?_
              refine AllReadyH.cons rfl (fun K hK => ?_) ?_
              · have zz0 := Z12.cell 0
                have zz1 := Z12.cell 1
                have zz2 := Z12.cell 2
                have zf0 := Z12.frozen 0
                have zf1 := Z12.frozen 1
                have zf2 := Z12.frozen 2
                go_simp
                have HB13 := (((HB12.setCell (p := ⟨wq2.heap.size, 0, none⟩) hq10 (.int .i64 rW)).setCell (p := ⟨wq2.heap.size, 1, none⟩) hq10 (.int .i64 rH)).setCell (p := ⟨wq2.heap.size, 2, none⟩) hq10 (.slice Ar ys.length cr))
                have hne13 := row_ne' OF12.1 Z12 (by decide)
                have OF13 := (((OF12.far (a := ⟨wq2.heap.size, 0, none⟩) hne13 (.int .i64 rW)).far (a := ⟨wq2.heap.size, 1, none⟩) hne13 (.int .i64 rH)).far (a := ⟨wq2.heap.size, 2, none⟩) hne13 (.slice Ar ys.length cr))
                have Z13 : Blk _ _ _ #[.int .i64 rW, .int .i64 rH, .slice Ar ys.length cr] := Z12.put3t
                clear zz0 zz1 zz2 zf0 zf1 zf2
                refine hK.out _ _ (by exact ⟨cells_of HB13 ea00 za0, cells_of HB13 ea01 za0, cells_of HB13 ea02 za0, cells_of HB13 ea10 za1, cells_of HB13 ea11 za1, cells_of HB13 ea12 za1, cells_of HB13 ea20 za2, cells_of HB13 ea21 za2, cells_of HB13 ea22 za2⟩) (fun hHeld => ?_)
                clear hK K
                (try simp only [Act.put, List.getElem_toArray, List.getElem_cons_zero, List.getElem_cons_succ, List.setIfInBounds_toArray, List.set_cons_zero, List.set_cons_succ])
                refine wpAnyH_take (i := 12) (v := ?_) rfl (by kernel_rfl) (by kernel_rfl) (by kernel_rfl) (fun _ _ _ h => h) (Or.inl ⟨by rfl, ?_⟩) (by assumption) ?_
                rotate_left
                · intro w hSw; (try dsimp only at hSw); go_simp; (try with_reducible rfl)
                (try simp only [Act.put, List.getElem_toArray, List.getElem_cons_zero, List.getElem_cons_succ, List.setIfInBounds_toArray, List.set_cons_zero, List.set_cons_succ])
                clear hHeld
                refine wpAnyH_done (by kernel_rfl) ?_ _
                refine NoPanic.normal ?_
                go_wp2_with fail
                go_meet
                exact ⟨wq2.heap.size, Ar, cr, rfl, rfl, hq10, Z13.box, OF13, HB13⟩
              exact AllReadyH.nil
            exact AllReadyH.nil
          exact AllReadyH.nil
        exact AllReadyH.nil
      refine AllReadyH.cons rfl (fun K hK => ?_) ?_
      · go_simp
        have HB14 := HB1.alloc HB1.size (.cells #[.int .i64 0, .int .i64 0, .slice none 0 0] 28)
        have O14_0 := O1_0.alloc (.cells #[.int .i64 0, .int .i64 0, .slice none 0 0] 28)
        have Z14 : Blk _ wq1.heap.size _ _ := Blk.new wq1 #[.int .i64 0, .int .i64 0, .slice none 0 0] 28
        have hq14 : w_3.heap.size ≤ wq1.heap.size := HB1.size
        refine hK.out _ _ (by exact ⟨cells_of HB14 ea00 za0, cells_of HB14 ea01 za0, cells_of HB14 ea02 za0, cells_of HB14 ea10 za1, cells_of HB14 ea11 za1, cells_of HB14 ea12 za1, cells_of HB14 ea20 za2, cells_of HB14 ea21 za2, cells_of HB14 ea22 za2⟩) (fun hHeld => ?_)
        clear hK K hHeld
        (try simp only [Act.put, List.getElem_toArray, List.getElem_cons_zero, List.getElem_cons_succ, List.setIfInBounds_toArray, List.set_cons_zero, List.set_cons_succ])
        refine wpAnyH_ready (rs := [3]) (by kernel_rfl) (by simp) ?_
        refine AllReadyH.cons rfl (fun K hK => ?_) ?_
        · go_simp
          refine (toChart_any W1 H1 A1 _ c1 w.heap.size xs1 _ (R1.below HB14 hz) (Nat.le_trans hz HB14.size) hn1).mono ?_
          rintro e wq15 ⟨gd1, rfl, own, hb⟩
          have HB15 := HB14.trans (hb.mono HB14.size)
          have O15_0 := O14_0.all hb
          have O15_1 := own.mono HB14.size
          have Z15 := Z14.all hb
          clear own hb
          refine hK.out _ _ (by exact ⟨cells_of HB15 ea00 za0, cells_of HB15 ea01 za0, cells_of HB15 ea02 za0, cells_of HB15 ea10 za1, cells_of HB15 ea11 za1, cells_of HB15 ea12 za1, cells_of HB15 ea20 za2, cells_of HB15 ea21 za2, cells_of HB15 ea22 za2⟩) (fun hHeld => ?_)
          clear hK K hHeld
          (try simp only [Act.put, List.getElem_toArray, List.getElem_cons_zero, List.getElem_cons_succ, List.setIfInBounds_toArray, List.set_cons_zero, List.set_cons_succ])
          refine wpAnyH_ready (rs := [5]) (by kernel_rfl) (by simp) ?_
          refine AllReadyH.cons rfl (fun K hK => ?_) ?_
          · go_simp
            refine (toChart_any W2 H2 A2 _ c2 w.heap.size xs2 _ (R2.below HB15 hz) (Nat.le_trans hz HB15.size) hn2).mono ?_
            rintro e wq16 ⟨gd2, rfl, own, hb⟩
            have HB16 := HB15.trans (hb.mono HB15.size)
            have O16_0 := O15_0.all hb
            have O16_1 := O15_1.all hb
            have O16_2 := own.mono HB15.size
            have Z16 := Z15.all hb
            clear own hb
            refine hK.out _ _ (by exact ⟨cells_of HB16 ea00 za0, cells_of HB16 ea01 za0, cells_of HB16 ea02 za0, cells_of HB16 ea10 za1, cells_of HB16 ea11 za1, cells_of HB16 ea12 za1, cells_of HB16 ea20 za2, cells_of HB16 ea21 za2, cells_of HB16 ea22 za2⟩) (fun hHeld => ?_)
            clear hK K hHeld
            (try simp only [Act.put, List.getElem_toArray, List.getElem_cons_zero, List.getElem_cons_succ, List.setIfInBounds_toArray, List.set_cons_zero, List.set_cons_succ])
            refine wpAnyH_ready (rs := [6]) (by kernel_rfl) (by simp) ?_
            refine AllReadyH.cons rfl (fun K hK => ?_) ?_
            · go_simp
              refine (hspec.out _ _ _ _ _ _ _ O16_0.rd O16_1.rd O16_2.rd).mono ?_
              rintro e wq17 ⟨Ar, cr, rfl, own, hb⟩
              have HB17 := HB16.trans (hb.mono HB16.size)
              have Z17 := Z16.all hb
              have OF17 := own.mono HB16.size
              clear hb
              refine hK.out _ _ (by exact ⟨cells_of HB17 ea00 za0, cells_of HB17 ea01 za0, cells_of HB17 ea02 za0, cells_of HB17 ea10 za1, cells_of HB17 ea11 za1, cells_of HB17 ea12 za1, cells_of HB17 ea20 za2, cells_of HB17 ea21 za2, cells_of HB17 ea22 za2⟩) (fun hHeld => ?_)
              clear hK K
              (try simp only [Act.put, List.getElem_toArray, List.getElem_cons_zero, List.getElem_cons_succ, List.setIfInBounds_toArray, List.set_cons_zero, List.set_cons_succ])
              refine wpAnyH_take (i := 7) (v := ?_) rfl (by kernel_rfl) (by kernel_rfl) (by kernel_rfl) (fun _ _ _ h => h) (Or.inl ⟨by rfl, ?_⟩) (by assumption) ?_
              rotate_left
              · intro w hSw; (try dsimp only at hSw); go_simp; (try with_reducible rfl)
              (try simp only [Act.put, List.getElem_toArray, List.getElem_cons_zero, List.getElem_cons_succ, List.setIfInBounds_toArray, List.set_cons_zero, List.set_cons_succ])
              refine wpAnyH_take (i := 8) (v := ?_) rfl (by kernel_rfl) (by kernel_rfl) (by kernel_rfl) (fun _ _ _ h => h) (Or.inl ⟨by rfl, ?_⟩) (by assumption) ?_
              rotate_left
              · intro w hSw; (try dsimp only at hSw); go_simp; (try with_reducible rfl)
              (try simp only [Act.put, List.getElem_toArray, List.getElem_cons_zero, List.getElem_cons_succ, List.setIfInBounds_toArray, List.set_cons_zero, List.set_cons_succ])
              refine wpAnyH_take (i := 9) (v := ?_) rfl (by kernel_rfl) (by kernel_rfl) (by kernel_rfl) (fun _ _ _ h => h) (Or.inl ⟨by rfl, ?_⟩) (by assumption) ?_
              rotate_left
              · intro w hSw; (try dsimp only at hSw); go_simp; (try with_reducible rfl)
              (try simp only [Act.put, List.getElem_toArray, List.getElem_cons_zero, List.getElem_cons_succ, List.setIfInBounds_toArray, List.set_cons_zero, List.set_cons_succ])
              clear hHeld
              refine wpAnyH_ready (rs := [11]) (by kernel_rfl) (by simp) ?_
              refine AllReadyH.cons rfl (fun K hK => ?_) ?_
              · have zz0 := Z17.cell 0
                have zz1 := Z17.cell 1
                have zz2 := Z17.cell 2
                have zf0 := Z17.frozen 0
                have zf1 := Z17.frozen 1
                have zf2 := Z17.frozen 2
                go_simp
                have HB18 := (((HB17.setCell (p := ⟨wq1.heap.size, 0, none⟩) hq14 (.int .i64 rW)).setCell (p := ⟨wq1.heap.size, 1, none⟩) hq14 (.int .i64 rH)).setCell (p := ⟨wq1.heap.size, 2, none⟩) hq14 (.slice Ar ys.length cr))
                have hne18 := row_ne' OF17.1 Z17 (by decide)
                have OF18 := (((OF17.far (a := ⟨wq1.heap.size, 0, none⟩) hne18 (.int .i64 rW)).far (a := ⟨wq1.heap.size, 1, none⟩) hne18 (.int .i64 rH)).far (a := ⟨wq1.heap.size, 2, none⟩) hne18 (.slice Ar ys.length cr))
                have Z18 : Blk _ _ _ #[.int .i64 rW, .int .i64 rH, .slice Ar ys.length cr] := Z17.put3t
                clear zz0 zz1 zz2 zf0 zf1 zf2
                refine hK.out _ _ (by exact ⟨cells_of HB18 ea00 za0, cells_of HB18 ea01 za0, cells_of HB18 ea02 za0, cells_of HB18 ea10 za1, cells_of HB18 ea11 za1, cells_of HB18 ea12 za1, cells_of HB18 ea20 za2, cells_of HB18 ea21 za2, cells_of HB18 ea22 za2⟩) (fun hHeld => ?_)
                clear hK K
                (try simp only [Act.put, List.getElem_toArray, List.getElem_cons_zero, List.getElem_cons_succ, List.setIfInBounds_toArray, List.set_cons_zero, List.set_cons_succ])
                refine wpAnyH_take (i := 12) (v := ?_) rfl (by kernel_rfl) (by kernel_rfl) (by kernel_rfl) (fun _ _ _ h => h) (Or.inl ⟨by rfl, ?_⟩) (by assumption) ?_
                rotate_left
                · intro w hSw; (try dsimp only at hSw); go_simp; (try with_reducible rfl)
                (try simp only [Act.put, List.getElem_toArray, List.getElem_cons_zero, List.getElem_cons_succ, List.setIfInBounds_toArray, List.set_cons_zero, List.set_cons_succ])
                clear hHeld
                refine wpAnyH_done (by kernel_rfl) ?_ _
                refine NoPanic.normal ?_
                go_wp2_with fail
                go_meet
                exact ⟨wq1.heap.size, Ar, cr, rfl, rfl, hq14, Z18.box, OF18, HB18⟩
              exact AllReadyH.nil
            exact AllReadyH.nil
          exact AllReadyH.nil
        exact AllReadyH.nil
      exact AllReadyH.nil
    refine AllReadyH.cons rfl (fun K hK => ?_) ?_
    · go_simp
      have HB19 := HB0.alloc HB0.size (.cells #[.int .i64 0, .int .i64 0, .slice none 0 0] 28)
      have Z19 : Blk _ w_3.heap.size _ _ := Blk.new w_3.drew #[.int .i64 0, .int .i64 0, .slice none 0 0] 28
      have hq19 : w_3.heap.size ≤ w_3.heap.size := HB0.size
      refine hK.out _ _ (by exact ⟨cells_of HB19 ea00 za0, cells_of HB19 ea01 za0, cells_of HB19 ea02 za0, cells_of HB19 ea10 za1, cells_of HB19 ea11 za1, cells_of HB19 ea12 za1, cells_of HB19 ea20 za2, cells_of HB19 ea21 za2, cells_of HB19 ea22 za2⟩) (fun hHeld => ?_)
      clear hK K hHeld
      (try simp only [Act.put, List.getElem_toArray, List.getElem_cons_zero, List.getElem_cons_succ, List.setIfInBounds_toArray, List.set_cons_zero, List.set_cons_succ])
      refine wpAnyH_ready (rs := [1]) (by kernel_rfl) (by simp) ?_
      refine AllReadyH.cons rfl (fun K hK => ?_) ?_
      · go_simp
        refine (toChart_any W0 H0 A0 _ c0 w.heap.size xs0 _ (R0.below HB19 hz) (Nat.le_trans hz HB19.size) hn0).mono ?_
        rintro e wq20 ⟨gd0, rfl, own, hb⟩
        have HB20 := HB19.trans (hb.mono HB19.size)
        have O20_0 := own.mono HB19.size
        have Z20 := Z19.all hb
        clear own hb
        refine hK.out _ _ (by exact ⟨cells_of HB20 ea00 za0, cells_of HB20 ea01 za0, cells_of HB20 ea02 za0, cells_of HB20 ea10 za1, cells_of HB20 ea11 za1, cells_of HB20 ea12 za1, cells_of HB20 ea20 za2, cells_of HB20 ea21 za2, cells_of HB20 ea22 za2⟩) (fun hHeld => ?_)
        clear hK K hHeld
        (try simp only [Act.put, List.getElem_toArray, List.getElem_cons_zero, List.getElem_cons_succ, List.setIfInBounds_toArray, List.set_cons_zero, List.set_cons_succ])
        refine wpAnyH_ready (rs := [3]) (by kernel_rfl) (by simp) ?_
        refine AllReadyH.cons rfl (fun K hK => ?_) ?_
        · go_simp
          refine (toChart_any W1 H1 A1 _ c1 w.heap.size xs1 _ (R1.below HB20 hz) (Nat.le_trans hz HB20.size) hn1).mono ?_
          rintro e wq21 ⟨gd1, rfl, own, hb⟩
          have HB21 := HB20.trans (hb.mono HB20.size)
          have O21_0 := O20_0.all hb
          have O21_1 := own.mono HB20.size
          have Z21 := Z20.all hb
          clear own hb
          refine hK.out _ _ (by exact ⟨cells_of HB21 ea00 za0, cells_of HB21 ea01 za0, cells_of HB21 ea02 za0, cells_of HB21 ea10 za1, cells_of HB21 ea11 za1, cells_of HB21 ea12 za1, cells_of HB21 ea20 za2, cells_of HB21 ea21 za2, cells_of HB21 ea22 za2⟩) (fun hHeld => ?_)
          clear hK K hHeld
          (try simp only [Act.put, List.getElem_toArray, List.getElem_cons_zero, List.getElem_cons_succ, List.setIfInBounds_toArray, List.set_cons_zero, List.set_cons_succ])
          refine wpAnyH_ready (rs := [5]) (by kernel_rfl) (by simp) ?_
          refine AllReadyH.cons rfl (fun K hK => ?_) ?_
          · go_simp
            refine (toChart_any W2 H2 A2 _ c2 w.heap.size xs2 _ (R2.below HB21 hz) (Nat.le_trans hz HB21.size) hn2).mono ?_
            rintro e wq22 ⟨gd2, rfl, own, hb⟩
            have HB22 := HB21.trans (hb.mono HB21.size)
            have O22_0 := O21_0.all hb
            have O22_1 := O21_1.all hb
            have O22_2 := own.mono HB21.size
            have Z22 := Z21.all hb
            clear own hb
            refine hK.out _ _ (by exact ⟨cells_of HB22 ea00 za0, cells_of HB22 ea01 za0, cells_of HB22 ea02 za0, cells_of HB22 ea10 za1, cells_of HB22 ea11 za1, cells_of HB22 ea12 za1, cells_of HB22 ea20 za2, cells_of HB22 ea21 za2, cells_of HB22 ea22 za2⟩) (fun hHeld => ?_)
            clear hK K hHeld
            (try simp only [Act.put, List.getElem_toArray, List.getElem_cons_zero, List.getElem_cons_succ, List.setIfInBounds_toArray, List.set_cons_zero, List.set_cons_succ])
            refine wpAnyH_ready (rs := [6]) (by kernel_rfl) (by simp) ?_
            refine AllReadyH.cons rfl (fun K hK => ?_) ?_
            · go_simp
              refine (hspec.out _ _ _ _ _ _ _ O22_0.rd O22_1.rd O22_2.rd).mono ?_
              rintro e wq23 ⟨Ar, cr, rfl, own, hb⟩
              have HB23 := HB22.trans (hb.mono HB22.size)
              have Z23 := Z22.all hb
              have OF23 := own.mono HB22.size
              clear hb
              refine hK.out _ _ (by exact ⟨cells_of HB23 ea00 za0, cells_of HB23 ea01 za0, cells_of HB23 ea02 za0, cells_of HB23 ea10 za1, cells_of HB23 ea11 za1, cells_of HB23 ea12 za1, cells_of HB23 ea20 za2, cells_of HB23 ea21 za2, cells_of HB23 ea22 za2⟩) (fun hHeld => ?_)
              clear hK K
              (try simp only [Act.put, List.getElem_toArray, List.getElem_cons_zero, List.getElem_cons_succ, List.setIfInBounds_toArray, List.set_cons_zero, List.set_cons_succ])
              refine wpAnyH_take (i := 7) (v := ?_) rfl (by kernel_rfl) (by kernel_rfl) (by kernel_rfl) (fun _ _ _ h => h) (Or.inl ⟨by rfl, ?_⟩) (by assumption) ?_
              rotate_left
              · intro w hSw; (try dsimp only at hSw); go_simp; (try with_reducible rfl)
              (try simp only [Act.put, List.getElem_toArray, List.getElem_cons_zero, List.getElem_cons_succ, List.setIfInBounds_toArray, List.set_cons_zero, List.set_cons_succ])
              refine wpAnyH_take (i := 8) (v := ?_) rfl (by kernel_rfl) (by kernel_rfl) (by kernel_rfl) (fun _ _ _ h => h) (Or.inl ⟨by rfl, ?_⟩) (by assumption) ?_
              rotate_left
              · intro w hSw; (try dsimp only at hSw); go_simp; (try with_reducible rfl)
              (try simp only [Act.put, List.getElem_toArray, List.getElem_cons_zero, List.getElem_cons_succ, List.setIfInBounds_toArray, List.set_cons_zero, List.set_cons_succ])
              refine wpAnyH_take (i := 9) (v := ?_) rfl (by kernel_rfl) (by kernel_rfl) (by kernel_rfl) (fun _ _ _ h => h) (Or.inl ⟨by rfl, ?_⟩) (by assumption) ?_
              rotate_left
              · intro w hSw; (try dsimp only at hSw); go_simp; (try with_reducible rfl)
              (try simp only [Act.put, List.getElem_toArray, List.getElem_cons_zero, List.getElem_cons_succ, List.setIfInBounds_toArray, List.set_cons_zero, List.set_cons_succ])
              clear hHeld
              refine wpAnyH_ready (rs := [11]) (by kernel_rfl) (by simp) ?_
              refine AllReadyH.cons rfl (fun K hK => ?_) ?_
              · have zz0 := Z23.cell 0
                have zz1 := Z23.cell 1
                have zz2 := Z23.cell 2
                have zf0 := Z23.frozen 0
                have zf1 := Z23.frozen 1
                have zf2 := Z23.frozen 2
                go_simp
                have HB24 := (((HB23.setCell (p := ⟨w_3.heap.size, 0, none⟩) hq19 (.int .i64 rW)).setCell (p := ⟨w_3.heap.size, 1, none⟩) hq19 (.int .i64 rH)).setCell (p := ⟨w_3.heap.size, 2, none⟩) hq19 (.slice Ar ys.length cr))
                have hne24 := row_ne' OF23.1 Z23 (by decide)
                have OF24 := (((OF23.far (a := ⟨w_3.heap.size, 0, none⟩) hne24 (.int .i64 rW)).far (a := ⟨w_3.heap.size, 1, none⟩) hne24 (.int .i64 rH)).far (a := ⟨w_3.heap.size, 2, none⟩) hne24 (.slice Ar ys.length cr))
                have Z24 : Blk _ _ _ #[.int .i64 rW, .int .i64 rH, .slice Ar ys.length cr] := Z23.put3t
                clear zz0 zz1 zz2 zf0 zf1 zf2
                refine hK.out _ _ (by exact ⟨cells_of HB24 ea00 za0, cells_of HB24 ea01 za0, cells_of HB24 ea02 za0, cells_of HB24 ea10 za1, cells_of HB24 ea11 za1, cells_of HB24 ea12 za1, cells_of HB24 ea20 za2, cells_of HB24 ea21 za2, cells_of HB24 ea22 za2⟩) (fun hHeld => ?_)
                clear hK K
                (try simp only [Act.put, List.getElem_toArray, List.getElem_cons_zero, List.getElem_cons_succ, List.setIfInBounds_toArray, List.set_cons_zero, List.set_cons_succ])
                refine wpAnyH_take (i := 12) (v := ?_) rfl (by kernel_rfl) (by kernel_rfl) (by kernel_rfl) (fun _ _ _ h => h) (Or.inl ⟨by rfl, ?_⟩) (by assumption) ?_
                rotate_left
                · intro w hSw; (try dsimp only at hSw); go_simp; (try with_reducible rfl)
                (try simp only [Act.put, List.getElem_toArray, List.getElem_cons_zero, List.getElem_cons_succ, List.setIfInBounds_toArray, List.set_cons_zero, List.set_cons_succ])
                clear hHeld
                refine wpAnyH_done (by kernel_rfl) ?_ _
                refine NoPanic.normal ?_
                go_wp2_with fail
                go_meet
                exact ⟨w_3.heap.size, Ar, cr, rfl, rfl, hq19, Z24.box, OF24, HB24⟩
              exact AllReadyH.nil
            exact AllReadyH.nil
          exact AllReadyH.nil
        exact AllReadyH.nil
      exact AllReadyH.nil
    exact AllReadyH.nil
  case rest =>
    obtain ⟨q4, A_4, c_4, rfl, rfl, hq4, Bw0, own, hb⟩ := hcut
    obtain ⟨w_4, hw⟩ : ∃ w_4, w_4 = wc := ⟨_, rfl⟩
    subst hw
    have hqq4 := Bw0.1
    replace Ba0 := Ba0.all hb
    replace Ba1 := Ba1.all hb
    replace Ba2 := Ba2.all hb
    replace R0 := R0.all hb hz
    replace R1 := R1.all hb hz
    replace R2 := R2.all hb hz
    replace HB := Lib.hid (HB.out.trans (hb.mono hz))
    have hsw_4 : w_3.heap.size ≤ w_4.heap.size := hb.size
    replace hz : w.heap.size ≤ w_4.heap.size := Nat.le_trans hz hsw_4
    clear hb za0 ea00 ea01 ea02 za1 ea10 ea11 ea12 za2 ea20 ea21 ea22
    have Or4 := own; clear own
    have Obr4 := Lib.hid Or4.bd
    have za0 := Ba0.1
    have ea00 := Ba0.2 0 _ rfl
    have ea01 := Ba0.2 1 _ rfl
    have ea02 := Ba0.2 2 _ rfl
    have za1 := Ba1.1
    have ea10 := Ba1.2 0 _ rfl
    have ea11 := Ba1.2 1 _ rfl
    have ea12 := Ba1.2 2 _ rfl
    have za2 := Ba2.1
    have ea20 := Ba2.2 0 _ rfl
    have ea21 := Ba2.2 1 _ rfl
    have ea22 := Ba2.2 2 _ rfl
    have zw0 := Bw0.1
    have ew00 := Bw0.2 0 _ rfl
    have ew01 := Bw0.2 1 _ rfl
    have ew02 := Bw0.2 2 _ rfl
    go_wp2_with fail
    refine (toChart_any W0 H0 A0 _ c0 _ xs0 _ R0 (by first | omega | (simp; done) | (simp; omega)) hn0).mono ?_
    rintro e w_5 ⟨g5, rfl, own, hb⟩
    replace Ba0 := Ba0.all hb
    replace Ba1 := Ba1.all hb
    replace Ba2 := Ba2.all hb
    replace Bw0 := Bw0.all hb
    replace R0 := R0.all hb hz
    replace R1 := R1.all hb hz
    replace R2 := R2.all hb hz
    replace Or4 := Or4.all hb
    have hsw_5 : w_4.heap.size ≤ w_5.heap.size := hb.size
    replace HB := Lib.hid (HB.out.trans (hb.mono hz))
    replace hz : w.heap.size ≤ w_5.heap.size := by omega
    clear hb za0 ea00 ea01 ea02 za1 ea10 ea11 ea12 za2 ea20 ea21 ea22 zw0 ew00 ew01 ew02
    have Ot5 := own; clear own
    have Obt5 := Lib.hid Ot5.bd
    have za0 := Ba0.1
    have ea00 := Ba0.2 0 _ rfl
    have ea01 := Ba0.2 1 _ rfl
    have ea02 := Ba0.2 2 _ rfl
    have za1 := Ba1.1
    have ea10 := Ba1.2 0 _ rfl
    have ea11 := Ba1.2 1 _ rfl
    have ea12 := Ba1.2 2 _ rfl
    have za2 := Ba2.1
    have ea20 := Ba2.2 0 _ rfl
    have ea21 := Ba2.2 1 _ rfl
    have ea22 := Ba2.2 2 _ rfl
    have zw0 := Bw0.1
    have ew00 := Bw0.2 0 _ rfl
    have ew01 := Bw0.2 1 _ rfl
    have ew02 := Bw0.2 2 _ rfl
    go_wp2_with fail
    refine (toChart_any W1 H1 A1 _ c1 _ xs1 _ (R1.alloc (by first | omega | (simp; done) | (simp; omega)) _) (by first | omega | (simp; done) | (simp; omega)) hn1).mono ?_
    rintro e w_6 ⟨g6, rfl, own, hb⟩
    have hb0 := hb
    replace hb := ((Below.refl w_5.heap.size w_5).alloc (by first | (simp; done) | (simp; omega)) _).trans (hb0.mono (by first | omega | (simp; done) | (simp; omega)))
    replace Ba0 := Ba0.all hb
    replace Ba1 := Ba1.all hb
    replace Ba2 := Ba2.all hb
    replace Bw0 := Bw0.all hb
    replace R0 := R0.all hb hz
    replace R1 := R1.all hb hz
    replace R2 := R2.all hb hz
    replace Or4 := Or4.all hb
    replace Ot5 := Ot5.all hb
    have Bx0 := (Box.new w_5 #[.int .i64 W0, .int .i64 H0, .slice (some ⟨g5, 0, none⟩) xs0.length xs0.length] 28).all hb0
    have hsw_6 : w_5.heap.size + 1 ≤ w_6.heap.size := by have := hb0.size; simp at this; omega
    replace own := own.mono (show w_5.heap.size + 1 ≤ _ by simp)
    clear hb0
    replace HB := Lib.hid (HB.out.trans (hb.mono hz))
    replace hz : w.heap.size ≤ w_6.heap.size := by omega
    clear hb za0 ea00 ea01 ea02 za1 ea10 ea11 ea12 za2 ea20 ea21 ea22 zw0 ew00 ew01 ew02
    have Ot6 := own; clear own
    have Obt6 := Lib.hid Ot6.bd
    have za0 := Ba0.1
    have ea00 := Ba0.2 0 _ rfl
    have ea01 := Ba0.2 1 _ rfl
    have ea02 := Ba0.2 2 _ rfl
    have za1 := Ba1.1
    have ea10 := Ba1.2 0 _ rfl
    have ea11 := Ba1.2 1 _ rfl
    have ea12 := Ba1.2 2 _ rfl
    have za2 := Ba2.1
    have ea20 := Ba2.2 0 _ rfl
    have ea21 := Ba2.2 1 _ rfl
    have ea22 := Ba2.2 2 _ rfl
    have zw0 := Bw0.1
    have ew00 := Bw0.2 0 _ rfl
    have ew01 := Bw0.2 1 _ rfl
    have ew02 := Bw0.2 2 _ rfl
    have zx0 := Bx0.1
    have ex00 := Bx0.2 0 _ rfl
    have ex01 := Bx0.2 1 _ rfl
    have ex02 := Bx0.2 2 _ rfl
    go_wp2_with fail
    refine (toChart_any W2 H2 A2 _ c2 _ xs2 _ (R2.alloc (by first | omega | (simp; done) | (simp; omega)) _) (by first | omega | (simp; done) | (simp; omega)) hn2).mono ?_
    rintro e w_7 ⟨g7, rfl, own, hb⟩
    have hb0 := hb
    replace hb := ((Below.refl w_6.heap.size w_6).alloc (by first | (simp; done) | (simp; omega)) _).trans (hb0.mono (by first | omega | (simp; done) | (simp; omega)))
    replace Ba0 := Ba0.all hb
    replace Ba1 := Ba1.all hb
    replace Ba2 := Ba2.all hb
    replace Bw0 := Bw0.all hb
    replace Bx0 := Bx0.all hb
    replace R0 := R0.all hb hz
    replace R1 := R1.all hb hz
    replace R2 := R2.all hb hz
    replace Or4 := Or4.all hb
    replace Ot5 := Ot5.all hb
    replace Ot6 := Ot6.all hb
    have Bx1 := (Box.new w_6 #[.int .i64 W1, .int .i64 H1, .slice (some ⟨g6, 0, none⟩) xs1.length xs1.length] 28).all hb0
    have hsw_7 : w_6.heap.size + 1 ≤ w_7.heap.size := by have := hb0.size; simp at this; omega
    replace own := own.mono (show w_6.heap.size + 1 ≤ _ by simp)
    clear hb0
    replace HB := Lib.hid (HB.out.trans (hb.mono hz))
    replace hz : w.heap.size ≤ w_7.heap.size := by omega
    clear hb za0 ea00 ea01 ea02 za1 ea10 ea11 ea12 za2 ea20 ea21 ea22 zw0 ew00 ew01 ew02 zx0 ex00 ex01 ex02
    have Ot7 := own; clear own
    have Obt7 := Lib.hid Ot7.bd
    have za0 := Ba0.1
    have ea00 := Ba0.2 0 _ rfl
    have ea01 := Ba0.2 1 _ rfl
    have ea02 := Ba0.2 2 _ rfl
    have za1 := Ba1.1
    have ea10 := Ba1.2 0 _ rfl
    have ea11 := Ba1.2 1 _ rfl
    have ea12 := Ba1.2 2 _ rfl
    have za2 := Ba2.1
    have ea20 := Ba2.2 0 _ rfl
    have ea21 := Ba2.2 1 _ rfl
    have ea22 := Ba2.2 2 _ rfl
    have zw0 := Bw0.1
    have ew00 := Bw0.2 0 _ rfl
    have ew01 := Bw0.2 1 _ rfl
    have ew02 := Bw0.2 2 _ rfl
    have zx0 := Bx0.1
    have ex00 := Bx0.2 0 _ rfl
    have ex01 := Bx0.2 1 _ rfl
    have ex02 := Bx0.2 2 _ rfl
    have zx1 := Bx1.1
    have ex10 := Bx1.2 0 _ rfl
    have ex11 := Bx1.2 1 _ rfl
    have ex12 := Bx1.2 2 _ rfl
    go_wp2_with fail
    refine (himpl.out _ (some ⟨g5, 0, none⟩) xs0.length (some ⟨g6, 0, none⟩) xs1.length (some ⟨g7, 0, none⟩) xs2.length (Ot5.alloc _).rd (Ot6.alloc _).rd (Ot7.alloc _).rd).mono ?_
    rintro e w_8 ⟨A_8, c_8, rfl, own, hb⟩
    have hb0 := hb
    replace hb := ((Below.refl w_7.heap.size w_7).alloc (by first | (simp; done) | (simp; omega)) _).trans (hb0.mono (by first | omega | (simp; done) | (simp; omega)))
    replace Ba0 := Ba0.all hb
    replace Ba1 := Ba1.all hb
    replace Ba2 := Ba2.all hb
    replace Bw0 := Bw0.all hb
    replace Bx0 := Bx0.all hb
    replace Bx1 := Bx1.all hb
    replace R0 := R0.all hb hz
    replace R1 := R1.all hb hz
    replace R2 := R2.all hb hz
    replace Or4 := Or4.all hb
    replace Ot5 := Ot5.all hb
    replace Ot6 := Ot6.all hb
    replace Ot7 := Ot7.all hb
    have Bx2 := (Box.new w_7 #[.int .i64 W2, .int .i64 H2, .slice (some ⟨g7, 0, none⟩) xs2.length xs2.length] 28).all hb0
    have hsw_8 : w_7.heap.size + 1 ≤ w_8.heap.size := by have := hb0.size; simp at this; omega
    replace own := own.mono (show w_7.heap.size + 1 ≤ _ by simp)
    clear hb0
    replace HB := Lib.hid (HB.out.trans (hb.mono hz))
    replace hz : w.heap.size ≤ w_8.heap.size := by omega
    clear hb za0 ea00 ea01 ea02 za1 ea10 ea11 ea12 za2 ea20 ea21 ea22 zw0 ew00 ew01 ew02 zx0 ex00 ex01 ex02 zx1 ex10 ex11 ex12
    have Or8 := own; clear own
    have Obr8 := Lib.hid Or8.bd
    have za0 := Ba0.1
    have ea00 := Ba0.2 0 _ rfl
    have ea01 := Ba0.2 1 _ rfl
    have ea02 := Ba0.2 2 _ rfl
    have za1 := Ba1.1
    have ea10 := Ba1.2 0 _ rfl
    have ea11 := Ba1.2 1 _ rfl
    have ea12 := Ba1.2 2 _ rfl
    have za2 := Ba2.1
    have ea20 := Ba2.2 0 _ rfl
    have ea21 := Ba2.2 1 _ rfl
    have ea22 := Ba2.2 2 _ rfl
    have zw0 := Bw0.1
    have ew00 := Bw0.2 0 _ rfl
    have ew01 := Bw0.2 1 _ rfl
    have ew02 := Bw0.2 2 _ rfl
    have zx0 := Bx0.1
    have ex00 := Bx0.2 0 _ rfl
    have ex01 := Bx0.2 1 _ rfl
    have ex02 := Bx0.2 2 _ rfl
    have zx1 := Bx1.1
    have ex10 := Bx1.2 0 _ rfl
    have ex11 := Bx1.2 1 _ rfl
    have ex12 := Bx1.2 2 _ rfl
    have zx2 := Bx2.1
    have ex20 := Bx2.2 0 _ rfl
    have ex21 := Bx2.2 1 _ rfl
    have ex22 := Bx2.2 2 _ rfl
    go_wp2_with fail
    refine (eqChart_same rW rH _ _ _ _ _ _ _ _ ys _ (Or8.alloc _).rd (Or4.alloc _).rd (Nat.le_refl _) (Nat.le_refl _)).mono ?_
    rintro e w_9 ⟨rfl, hb⟩
    have hb0 := hb
    replace hb := ((Below.refl w_8.heap.size w_8).alloc (by first | (simp; done) | (simp; omega)) _).trans (hb0.mono (by first | omega | (simp; done) | (simp; omega)))
    replace Ba0 := Ba0.all hb
    replace Ba1 := Ba1.all hb
    replace Ba2 := Ba2.all hb
    replace Bw0 := Bw0.all hb
    replace Bx0 := Bx0.all hb
    replace Bx1 := Bx1.all hb
    replace Bx2 := Bx2.all hb
    replace R0 := R0.all hb hz
    replace R1 := R1.all hb hz
    replace R2 := R2.all hb hz
    replace Or4 := Or4.all hb
    replace Ot5 := Ot5.all hb
    replace Ot6 := Ot6.all hb
    replace Ot7 := Ot7.all hb
    replace Or8 := Or8.all hb
    have Bg0 := (Box.new w_8 #[.int .i64 rW, .int .i64 rH, .slice A_8 ys.length c_8] 28).all hb0
    have hsw_9 : w_8.heap.size + 1 ≤ w_9.heap.size := by have := hb0.size; simp at this; omega
    clear hb0
    replace HB := Lib.hid (HB.out.trans (hb.mono hz))
    replace hz : w.heap.size ≤ w_9.heap.size := by omega
    clear hb za0 ea00 ea01 ea02 za1 ea10 ea11 ea12 za2 ea20 ea21 ea22 zw0 ew00 ew01 ew02 zx0 ex00 ex01 ex02 zx1 ex10 ex11 ex12 zx2 ex20 ex21 ex22
    have za0 := Ba0.1
    have ea00 := Ba0.2 0 _ rfl
    have ea01 := Ba0.2 1 _ rfl
    have ea02 := Ba0.2 2 _ rfl
    have za1 := Ba1.1
    have ea10 := Ba1.2 0 _ rfl
    have ea11 := Ba1.2 1 _ rfl
    have ea12 := Ba1.2 2 _ rfl
    have za2 := Ba2.1
    have ea20 := Ba2.2 0 _ rfl
    have ea21 := Ba2.2 1 _ rfl
    have ea22 := Ba2.2 2 _ rfl
    have zw0 := Bw0.1
    have ew00 := Bw0.2 0 _ rfl
    have ew01 := Bw0.2 1 _ rfl
    have ew02 := Bw0.2 2 _ rfl
    have zx0 := Bx0.1
    have ex00 := Bx0.2 0 _ rfl
    have ex01 := Bx0.2 1 _ rfl
    have ex02 := Bx0.2 2 _ rfl
    have zx1 := Bx1.1
    have ex10 := Bx1.2 0 _ rfl
    have ex11 := Bx1.2 1 _ rfl
    have ex12 := Bx1.2 2 _ rfl
    have zx2 := Bx2.1
    have ex20 := Bx2.2 0 _ rfl
    have ex21 := Bx2.2 1 _ rfl
    have ex22 := Bx2.2 2 _ rfl
    have zg0 := Bg0.1
    have eg00 := Bg0.2 0 _ rfl
    have eg01 := Bg0.2 1 _ rfl
    have eg02 := Bg0.2 2 _ rfl
    go_wp2_with fail
    go_region_held3 (fun w' => w'.cell? ⟨w.heap.size, 0, none⟩ = some (.int .i64 W0) ∧ w'.cell? ⟨w.heap.size, 1, none⟩ = some (.int .i64 H0) ∧ w'.cell? ⟨w.heap.size, 2, none⟩ = some (.slice A0 xs0.length c0) ∧ w'.cell? ⟨w_5.heap.size, 0, none⟩ = some (.int .i64 W0) ∧ w'.cell? ⟨w_5.heap.size, 1, none⟩ = some (.int .i64 H0) ∧ w'.cell? ⟨w_5.heap.size, 2, none⟩ = some (.slice (some ⟨g5, 0, none⟩) xs0.length xs0.length)) (first | exact ⟨ea00, ea01, ea02, ex00, ex01, ex02⟩ | exact ⟨(hbc _ _ (by omega)).trans ea00, (hbc _ _ (by omega)).trans ea01, (hbc _ _ (by omega)).trans ea02, (hbc _ _ (by omega)).trans ex00, (hbc _ _ (by omega)).trans ex01, (hbc _ _ (by omega)).trans ex02⟩ | exact ⟨(hbd _ _ (by omega)).trans ((hbc _ _ (by omega)).trans ea00), (hbd _ _ (by omega)).trans ((hbc _ _ (by omega)).trans ea01), (hbd _ _ (by omega)).trans ((hbc _ _ (by omega)).trans ea02), (hbd _ _ (by omega)).trans ((hbc _ _ (by omega)).trans ex00), (hbd _ _ (by omega)).trans ((hbc _ _ (by omega)).trans ex01), (hbd _ _ (by omega)).trans ((hbc _ _ (by omega)).trans ex02)⟩) (first | (go_at_call 13; refine (toChart_any W0 H0 A0 _ c0 _ xs0 _ R0.drew (by first | omega | (simp; done) | (simp; omega)) hn0).mono ?_; rintro e wa ⟨g2, rfl, hown, hb⟩; have hb6 : Below w_9.heap.size w_9 wa := below_drew hb; have hbc : ∀ b o, b < w_9.heap.size → wa.cell? ⟨b, o, none⟩ = w_9.cell? ⟨b, o, none⟩ := (bcell hb6).1; have hz6 : w_9.heap.size ≤ wa.heap.size := hb6.size; have HS6 := Ot5.rd.all hb6 (Nat.le_refl _)) | (go_at_call 15; refine (eqChart_same W0 H0 _ _ _ _ _ _ _ _ xs0 _ HS6 hown.rd (by omega) (Nat.le_refl _)).mono ?_; rintro e wb ⟨rfl, hb7⟩; have hbd : ∀ b o, b < wa.heap.size → wb.cell? ⟨b, o, none⟩ = wa.cell? ⟨b, o, none⟩ := (bcell hb7).1))
    obtain ⟨w_10, hw⟩ : ∃ w_10, w_10 = wb := ⟨_, rfl⟩
    subst hw
    have hb := hb6.trans (hb7.mono (by omega))
    clear hbd hbc HS6 hown hb6 hb7 hz6
    replace Ba0 := Ba0.all hb
    replace Ba1 := Ba1.all hb
    replace Ba2 := Ba2.all hb
    replace Bw0 := Bw0.all hb
    replace Bx0 := Bx0.all hb
    replace Bx1 := Bx1.all hb
    replace Bx2 := Bx2.all hb
    replace Bg0 := Bg0.all hb
    replace R0 := R0.all hb hz
    replace R1 := R1.all hb hz
    replace R2 := R2.all hb hz
    replace Or4 := Or4.all hb
    replace Ot5 := Ot5.all hb
    replace Ot6 := Ot6.all hb
    replace Ot7 := Ot7.all hb
    replace Or8 := Or8.all hb
    replace HB := Lib.hid (HB.out.trans (hb.mono hz))
    have hsw_10 : w_9.heap.size ≤ w_10.heap.size := hb.size
    replace hz : w.heap.size ≤ w_10.heap.size := Nat.le_trans hz hsw_10
    clear hb za0 ea00 ea01 ea02 za1 ea10 ea11 ea12 za2 ea20 ea21 ea22 zw0 ew00 ew01 ew02 zx0 ex00 ex01 ex02 zx1 ex10 ex11 ex12 zx2 ex20 ex21 ex22 zg0 eg00 eg01 eg02
    have za0 := Ba0.1
    have ea00 := Ba0.2 0 _ rfl
    have ea01 := Ba0.2 1 _ rfl
    have ea02 := Ba0.2 2 _ rfl
    have za1 := Ba1.1
    have ea10 := Ba1.2 0 _ rfl
    have ea11 := Ba1.2 1 _ rfl
    have ea12 := Ba1.2 2 _ rfl
    have za2 := Ba2.1
    have ea20 := Ba2.2 0 _ rfl
    have ea21 := Ba2.2 1 _ rfl
    have ea22 := Ba2.2 2 _ rfl
    have zw0 := Bw0.1
    have ew00 := Bw0.2 0 _ rfl
    have ew01 := Bw0.2 1 _ rfl
    have ew02 := Bw0.2 2 _ rfl
    have zx0 := Bx0.1
    have ex00 := Bx0.2 0 _ rfl
    have ex01 := Bx0.2 1 _ rfl
    have ex02 := Bx0.2 2 _ rfl
    have zx1 := Bx1.1
    have ex10 := Bx1.2 0 _ rfl
    have ex11 := Bx1.2 1 _ rfl
    have ex12 := Bx1.2 2 _ rfl
    have zx2 := Bx2.1
    have ex20 := Bx2.2 0 _ rfl
    have ex21 := Bx2.2 1 _ rfl
    have ex22 := Bx2.2 2 _ rfl
    have zg0 := Bg0.1
    have eg00 := Bg0.2 0 _ rfl
    have eg01 := Bg0.2 1 _ rfl
    have eg02 := Bg0.2 2 _ rfl
    go_wp2_with fail
    go_region_held3 (fun w' => w'.cell? ⟨w.heap.size + 1, 0, none⟩ = some (.int .i64 W1) ∧ w'.cell? ⟨w.heap.size + 1, 1, none⟩ = some (.int .i64 H1) ∧ w'.cell? ⟨w.heap.size + 1, 2, none⟩ = some (.slice A1 xs1.length c1) ∧ w'.cell? ⟨w_6.heap.size, 0, none⟩ = some (.int .i64 W1) ∧ w'.cell? ⟨w_6.heap.size, 1, none⟩ = some (.int .i64 H1) ∧ w'.cell? ⟨w_6.heap.size, 2, none⟩ = some (.slice (some ⟨g6, 0, none⟩) xs1.length xs1.length)) (first | exact ⟨ea10, ea11, ea12, ex10, ex11, ex12⟩ | exact ⟨(hbc _ _ (by omega)).trans ea10, (hbc _ _ (by omega)).trans ea11, (hbc _ _ (by omega)).trans ea12, (hbc _ _ (by omega)).trans ex10, (hbc _ _ (by omega)).trans ex11, (hbc _ _ (by omega)).trans ex12⟩ | exact ⟨(hbd _ _ (by omega)).trans ((hbc _ _ (by omega)).trans ea10), (hbd _ _ (by omega)).trans ((hbc _ _ (by omega)).trans ea11), (hbd _ _ (by omega)).trans ((hbc _ _ (by omega)).trans ea12), (hbd _ _ (by omega)).trans ((hbc _ _ (by omega)).trans ex10), (hbd _ _ (by omega)).trans ((hbc _ _ (by omega)).trans ex11), (hbd _ _ (by omega)).trans ((hbc _ _ (by omega)).trans ex12)⟩) (first | (go_at_call 13; refine (toChart_any W1 H1 A1 _ c1 _ xs1 _ R1.drew (by first | omega | (simp; done) | (simp; omega)) hn1).mono ?_; rintro e wa ⟨g2, rfl, hown, hb⟩; have hb6 : Below w_10.heap.size w_10 wa := below_drew hb; have hbc : ∀ b o, b < w_10.heap.size → wa.cell? ⟨b, o, none⟩ = w_10.cell? ⟨b, o, none⟩ := (bcell hb6).1; have hz6 : w_10.heap.size ≤ wa.heap.size := hb6.size; have HS6 := Ot6.rd.all hb6 (Nat.le_refl _)) | (go_at_call 15; refine (eqChart_same W1 H1 _ _ _ _ _ _ _ _ xs1 _ HS6 hown.rd (by omega) (Nat.le_refl _)).mono ?_; rintro e wb ⟨rfl, hb7⟩; have hbd : ∀ b o, b < wa.heap.size → wb.cell? ⟨b, o, none⟩ = wa.cell? ⟨b, o, none⟩ := (bcell hb7).1))
    obtain ⟨w_11, hw⟩ : ∃ w_11, w_11 = wb := ⟨_, rfl⟩
    subst hw
    have hb := hb6.trans (hb7.mono (by omega))
    clear hbd hbc HS6 hown hb6 hb7 hz6
    replace Ba0 := Ba0.all hb
    replace Ba1 := Ba1.all hb
    replace Ba2 := Ba2.all hb
    replace Bw0 := Bw0.all hb
    replace Bx0 := Bx0.all hb
    replace Bx1 := Bx1.all hb
    replace Bx2 := Bx2.all hb
    replace Bg0 := Bg0.all hb
    replace R0 := R0.all hb hz
    replace R1 := R1.all hb hz
    replace R2 := R2.all hb hz
    replace Or4 := Or4.all hb
    replace Ot5 := Ot5.all hb
    replace Ot6 := Ot6.all hb
    replace Ot7 := Ot7.all hb
    replace Or8 := Or8.all hb
    replace HB := Lib.hid (HB.out.trans (hb.mono hz))
    have hsw_11 : w_10.heap.size ≤ w_11.heap.size := hb.size
    replace hz : w.heap.size ≤ w_11.heap.size := Nat.le_trans hz hsw_11
    clear hb za0 ea00 ea01 ea02 za1 ea10 ea11 ea12 za2 ea20 ea21 ea22 zw0 ew00 ew01 ew02 zx0 ex00 ex01 ex02 zx1 ex10 ex11 ex12 zx2 ex20 ex21 ex22 zg0 eg00 eg01 eg02
    have za0 := Ba0.1
    have ea00 := Ba0.2 0 _ rfl
    have ea01 := Ba0.2 1 _ rfl
    have ea02 := Ba0.2 2 _ rfl
    have za1 := Ba1.1
    have ea10 := Ba1.2 0 _ rfl
    have ea11 := Ba1.2 1 _ rfl
    have ea12 := Ba1.2 2 _ rfl
    have za2 := Ba2.1
    have ea20 := Ba2.2 0 _ rfl
    have ea21 := Ba2.2 1 _ rfl
    have ea22 := Ba2.2 2 _ rfl
    have zw0 := Bw0.1
    have ew00 := Bw0.2 0 _ rfl
    have ew01 := Bw0.2 1 _ rfl
    have ew02 := Bw0.2 2 _ rfl
    have zx0 := Bx0.1
    have ex00 := Bx0.2 0 _ rfl
    have ex01 := Bx0.2 1 _ rfl
    have ex02 := Bx0.2 2 _ rfl
    have zx1 := Bx1.1
    have ex10 := Bx1.2 0 _ rfl
    have ex11 := Bx1.2 1 _ rfl
    have ex12 := Bx1.2 2 _ rfl
    have zx2 := Bx2.1
    have ex20 := Bx2.2 0 _ rfl
    have ex21 := Bx2.2 1 _ rfl
    have ex22 := Bx2.2 2 _ rfl
    have zg0 := Bg0.1
    have eg00 := Bg0.2 0 _ rfl
    have eg01 := Bg0.2 1 _ rfl
    have eg02 := Bg0.2 2 _ rfl
    go_wp2_with fail
    go_region_held3 (fun w' => w'.cell? ⟨w.heap.size + 2, 0, none⟩ = some (.int .i64 W2) ∧ w'.cell? ⟨w.heap.size + 2, 1, none⟩ = some (.int .i64 H2) ∧ w'.cell? ⟨w.heap.size + 2, 2, none⟩ = some (.slice A2 xs2.length c2) ∧ w'.cell? ⟨w_7.heap.size, 0, none⟩ = some (.int .i64 W2) ∧ w'.cell? ⟨w_7.heap.size, 1, none⟩ = some (.int .i64 H2) ∧ w'.cell? ⟨w_7.heap.size, 2, none⟩ = some (.slice (some ⟨g7, 0, none⟩) xs2.length xs2.length)) (first | exact ⟨ea20, ea21, ea22, ex20, ex21, ex22⟩ | exact ⟨(hbc _ _ (by omega)).trans ea20, (hbc _ _ (by omega)).trans ea21, (hbc _ _ (by omega)).trans ea22, (hbc _ _ (by omega)).trans ex20, (hbc _ _ (by omega)).trans ex21, (hbc _ _ (by omega)).trans ex22⟩ | exact ⟨(hbd _ _ (by omega)).trans ((hbc _ _ (by omega)).trans ea20), (hbd _ _ (by omega)).trans ((hbc _ _ (by omega)).trans ea21), (hbd _ _ (by omega)).trans ((hbc _ _ (by omega)).trans ea22), (hbd _ _ (by omega)).trans ((hbc _ _ (by omega)).trans ex20), (hbd _ _ (by omega)).trans ((hbc _ _ (by omega)).trans ex21), (hbd _ _ (by omega)).trans ((hbc _ _ (by omega)).trans ex22)⟩) (first | (go_at_call 13; refine (toChart_any W2 H2 A2 _ c2 _ xs2 _ R2.drew (by first | omega | (simp; done) | (simp; omega)) hn2).mono ?_; rintro e wa ⟨g2, rfl, hown, hb⟩; have hb6 : Below w_11.heap.size w_11 wa := below_drew hb; have hbc : ∀ b o, b < w_11.heap.size → wa.cell? ⟨b, o, none⟩ = w_11.cell? ⟨b, o, none⟩ := (bcell hb6).1; have hz6 : w_11.heap.size ≤ wa.heap.size := hb6.size; have HS6 := Ot7.rd.all hb6 (Nat.le_refl _)) | (go_at_call 15; refine (eqChart_same W2 H2 _ _ _ _ _ _ _ _ xs2 _ HS6 hown.rd (by omega) (Nat.le_refl _)).mono ?_; rintro e wb ⟨rfl, hb7⟩; have hbd : ∀ b o, b < wa.heap.size → wb.cell? ⟨b, o, none⟩ = wa.cell? ⟨b, o, none⟩ := (bcell hb7).1))
    obtain ⟨w_12, hw⟩ : ∃ w_12, w_12 = wb := ⟨_, rfl⟩
    subst hw
    have hb := hb6.trans (hb7.mono (by omega))
    clear hbd hbc HS6 hown hb6 hb7 hz6
    replace Ba0 := Ba0.all hb
    replace Ba1 := Ba1.all hb
    replace Ba2 := Ba2.all hb
    replace Bw0 := Bw0.all hb
    replace Bx0 := Bx0.all hb
    replace Bx1 := Bx1.all hb
    replace Bx2 := Bx2.all hb
    replace Bg0 := Bg0.all hb
    replace R0 := R0.all hb hz
    replace R1 := R1.all hb hz
    replace R2 := R2.all hb hz
    replace Or4 := Or4.all hb
    replace Ot5 := Ot5.all hb
    replace Ot6 := Ot6.all hb
    replace Ot7 := Ot7.all hb
    replace Or8 := Or8.all hb
    replace HB := Lib.hid (HB.out.trans (hb.mono hz))
    have hsw_12 : w_11.heap.size ≤ w_12.heap.size := hb.size
    replace hz : w.heap.size ≤ w_12.heap.size := Nat.le_trans hz hsw_12
    clear hb za0 ea00 ea01 ea02 za1 ea10 ea11 ea12 za2 ea20 ea21 ea22 zw0 ew00 ew01 ew02 zx0 ex00 ex01 ex02 zx1 ex10 ex11 ex12 zx2 ex20 ex21 ex22 zg0 eg00 eg01 eg02
    have za0 := Ba0.1
    have ea00 := Ba0.2 0 _ rfl
    have ea01 := Ba0.2 1 _ rfl
    have ea02 := Ba0.2 2 _ rfl
    have za1 := Ba1.1
    have ea10 := Ba1.2 0 _ rfl
    have ea11 := Ba1.2 1 _ rfl
    have ea12 := Ba1.2 2 _ rfl
    have za2 := Ba2.1
    have ea20 := Ba2.2 0 _ rfl
    have ea21 := Ba2.2 1 _ rfl
    have ea22 := Ba2.2 2 _ rfl
    have zw0 := Bw0.1
    have ew00 := Bw0.2 0 _ rfl
    have ew01 := Bw0.2 1 _ rfl
    have ew02 := Bw0.2 2 _ rfl
    have zx0 := Bx0.1
    have ex00 := Bx0.2 0 _ rfl
    have ex01 := Bx0.2 1 _ rfl
    have ex02 := Bx0.2 2 _ rfl
    have zx1 := Bx1.1
    have ex10 := Bx1.2 0 _ rfl
    have ex11 := Bx1.2 1 _ rfl
    have ex12 := Bx1.2 2 _ rfl
    have zx2 := Bx2.1
    have ex20 := Bx2.2 0 _ rfl
    have ex21 := Bx2.2 1 _ rfl
    have ex22 := Bx2.2 2 _ rfl
    have zg0 := Bg0.1
    have eg00 := Bg0.2 0 _ rfl
    have eg01 := Bg0.2 1 _ rfl
    have eg02 := Bg0.2 2 _ rfl
    go_wp2_with fail
    refine (markChart_any W0 H0 _ _ _ _ _ Ot5 hn0 (by omega) (by omega)).mono ?_
    rintro e w_13 ⟨rfl, own, hg⟩
    have zb := Ba0.1; replace Ba0 := Ba0.mark hg (fun k hk => by have := Obt5.out k hk; omega); clear zb
    have zb := Ba1.1; replace Ba1 := Ba1.mark hg (fun k hk => by have := Obt5.out k hk; omega); clear zb
    have zb := Ba2.1; replace Ba2 := Ba2.mark hg (fun k hk => by have := Obt5.out k hk; omega); clear zb
    have zb := Bw0.1; replace Bw0 := Bw0.mark hg (fun k hk => by have := Obt5.out k hk; omega); clear zb
    have zb := Bx0.1; replace Bx0 := Bx0.mark hg (fun k hk => by have := Obt5.out k hk; omega); clear zb
    have zb := Bx1.1; replace Bx1 := Bx1.mark hg (fun k hk => by have := Obt5.out k hk; omega); clear zb
    have zb := Bx2.1; replace Bx2 := Bx2.mark hg (fun k hk => by have := Obt5.out k hk; omega); clear zb
    have zb := Bg0.1; replace Bg0 := Bg0.mark hg (fun k hk => by have := Obt5.out k hk; omega); clear zb
    replace R0 := R0.mark hg (fun k hk => by have := Obt5.out k hk; omega) hz
    replace R1 := R1.mark hg (fun k hk => by have := Obt5.out k hk; omega) hz
    replace R2 := R2.mark hg (fun k hk => by have := Obt5.out k hk; omega) hz
    replace Or4 := Or4.mark hg (fun k k' hk hk' => by have := Obt5.out k hk; have := Obr4.out k' hk'; omega)
    replace Ot6 := Ot6.mark hg (fun k k' hk hk' => by have := Obt5.out k hk; have := Obt6.out k' hk'; omega)
    replace Ot7 := Ot7.mark hg (fun k k' hk hk' => by have := Obt5.out k hk; have := Obt7.out k' hk'; omega)
    replace Or8 := Or8.mark hg (fun k k' hk hk' => by have := Obt5.out k hk; have := Obr8.out k' hk'; omega)
    replace Ot5 := own; clear own
    replace HB := Lib.hid (HB.out.grown hg hz (fun k hk => by have := Obt5.out k hk; omega))
    have hsw_13 : w_12.heap.size ≤ w_13.heap.size := hg.size
    replace hz : w.heap.size ≤ w_13.heap.size := Nat.le_trans hz hsw_13
    clear hg za0 ea00 ea01 ea02 za1 ea10 ea11 ea12 za2 ea20 ea21 ea22 zw0 ew00 ew01 ew02 zx0 ex00 ex01 ex02 zx1 ex10 ex11 ex12 zx2 ex20 ex21 ex22 zg0 eg00 eg01 eg02
    have za0 := Ba0.1
    have ea00 := Ba0.2 0 _ rfl
    have ea01 := Ba0.2 1 _ rfl
    have ea02 := Ba0.2 2 _ rfl
    have za1 := Ba1.1
    have ea10 := Ba1.2 0 _ rfl
    have ea11 := Ba1.2 1 _ rfl
    have ea12 := Ba1.2 2 _ rfl
    have za2 := Ba2.1
    have ea20 := Ba2.2 0 _ rfl
    have ea21 := Ba2.2 1 _ rfl
    have ea22 := Ba2.2 2 _ rfl
    have zw0 := Bw0.1
    have ew00 := Bw0.2 0 _ rfl
    have ew01 := Bw0.2 1 _ rfl
    have ew02 := Bw0.2 2 _ rfl
    have zx0 := Bx0.1
    have ex00 := Bx0.2 0 _ rfl
    have ex01 := Bx0.2 1 _ rfl
    have ex02 := Bx0.2 2 _ rfl
    have zx1 := Bx1.1
    have ex10 := Bx1.2 0 _ rfl
    have ex11 := Bx1.2 1 _ rfl
    have ex12 := Bx1.2 2 _ rfl
    have zx2 := Bx2.1
    have ex20 := Bx2.2 0 _ rfl
    have ex21 := Bx2.2 1 _ rfl
    have ex22 := Bx2.2 2 _ rfl
    have zg0 := Bg0.1
    have eg00 := Bg0.2 0 _ rfl
    have eg01 := Bg0.2 1 _ rfl
    have eg02 := Bg0.2 2 _ rfl
    go_wp2_with fail
    refine (markChart_any W1 H1 _ _ _ _ _ Ot6 hn1 (by omega) (by omega)).mono ?_
    rintro e w_14 ⟨rfl, own, hg⟩
    have zb := Ba0.1; replace Ba0 := Ba0.mark hg (fun k hk => by have := Obt6.out k hk; omega); clear zb
    have zb := Ba1.1; replace Ba1 := Ba1.mark hg (fun k hk => by have := Obt6.out k hk; omega); clear zb
    have zb := Ba2.1; replace Ba2 := Ba2.mark hg (fun k hk => by have := Obt6.out k hk; omega); clear zb
    have zb := Bw0.1; replace Bw0 := Bw0.mark hg (fun k hk => by have := Obt6.out k hk; omega); clear zb
    have zb := Bx0.1; replace Bx0 := Bx0.mark hg (fun k hk => by have := Obt6.out k hk; omega); clear zb
    have zb := Bx1.1; replace Bx1 := Bx1.mark hg (fun k hk => by have := Obt6.out k hk; omega); clear zb
    have zb := Bx2.1; replace Bx2 := Bx2.mark hg (fun k hk => by have := Obt6.out k hk; omega); clear zb
    have zb := Bg0.1; replace Bg0 := Bg0.mark hg (fun k hk => by have := Obt6.out k hk; omega); clear zb
    replace R0 := R0.mark hg (fun k hk => by have := Obt6.out k hk; omega) hz
    replace R1 := R1.mark hg (fun k hk => by have := Obt6.out k hk; omega) hz
    replace R2 := R2.mark hg (fun k hk => by have := Obt6.out k hk; omega) hz
    replace Or4 := Or4.mark hg (fun k k' hk hk' => by have := Obt6.out k hk; have := Obr4.out k' hk'; omega)
    replace Ot5 := Ot5.mark hg (fun k k' hk hk' => by have := Obt6.out k hk; have := Obt5.out k' hk'; omega)
    replace Ot7 := Ot7.mark hg (fun k k' hk hk' => by have := Obt6.out k hk; have := Obt7.out k' hk'; omega)
    replace Or8 := Or8.mark hg (fun k k' hk hk' => by have := Obt6.out k hk; have := Obr8.out k' hk'; omega)
    replace Ot6 := own; clear own
    replace HB := Lib.hid (HB.out.grown hg hz (fun k hk => by have := Obt6.out k hk; omega))
    have hsw_14 : w_13.heap.size ≤ w_14.heap.size := hg.size
    replace hz : w.heap.size ≤ w_14.heap.size := Nat.le_trans hz hsw_14
    clear hg za0 ea00 ea01 ea02 za1 ea10 ea11 ea12 za2 ea20 ea21 ea22 zw0 ew00 ew01 ew02 zx0 ex00 ex01 ex02 zx1 ex10 ex11 ex12 zx2 ex20 ex21 ex22 zg0 eg00 eg01 eg02
    have za0 := Ba0.1
    have ea00 := Ba0.2 0 _ rfl
    have ea01 := Ba0.2 1 _ rfl
    have ea02 := Ba0.2 2 _ rfl
    have za1 := Ba1.1
    have ea10 := Ba1.2 0 _ rfl
    have ea11 := Ba1.2 1 _ rfl
    have ea12 := Ba1.2 2 _ rfl
    have za2 := Ba2.1
    have ea20 := Ba2.2 0 _ rfl
    have ea21 := Ba2.2 1 _ rfl
    have ea22 := Ba2.2 2 _ rfl
    have zw0 := Bw0.1
    have ew00 := Bw0.2 0 _ rfl
    have ew01 := Bw0.2 1 _ rfl
    have ew02 := Bw0.2 2 _ rfl
    have zx0 := Bx0.1
    have ex00 := Bx0.2 0 _ rfl
    have ex01 := Bx0.2 1 _ rfl
    have ex02 := Bx0.2 2 _ rfl
    have zx1 := Bx1.1
    have ex10 := Bx1.2 0 _ rfl
    have ex11 := Bx1.2 1 _ rfl
    have ex12 := Bx1.2 2 _ rfl
    have zx2 := Bx2.1
    have ex20 := Bx2.2 0 _ rfl
    have ex21 := Bx2.2 1 _ rfl
    have ex22 := Bx2.2 2 _ rfl
    have zg0 := Bg0.1
    have eg00 := Bg0.2 0 _ rfl
    have eg01 := Bg0.2 1 _ rfl
    have eg02 := Bg0.2 2 _ rfl
    go_wp2_with fail
    refine (markChart_any W2 H2 _ _ _ _ _ Ot7 hn2 (by omega) (by omega)).mono ?_
    rintro e w_15 ⟨rfl, own, hg⟩
    have zb := Ba0.1; replace Ba0 := Ba0.mark hg (fun k hk => by have := Obt7.out k hk; omega); clear zb
    have zb := Ba1.1; replace Ba1 := Ba1.mark hg (fun k hk => by have := Obt7.out k hk; omega); clear zb
    have zb := Ba2.1; replace Ba2 := Ba2.mark hg (fun k hk => by have := Obt7.out k hk; omega); clear zb
    have zb := Bw0.1; replace Bw0 := Bw0.mark hg (fun k hk => by have := Obt7.out k hk; omega); clear zb
    have zb := Bx0.1; replace Bx0 := Bx0.mark hg (fun k hk => by have := Obt7.out k hk; omega); clear zb
    have zb := Bx1.1; replace Bx1 := Bx1.mark hg (fun k hk => by have := Obt7.out k hk; omega); clear zb
    have zb := Bx2.1; replace Bx2 := Bx2.mark hg (fun k hk => by have := Obt7.out k hk; omega); clear zb
    have zb := Bg0.1; replace Bg0 := Bg0.mark hg (fun k hk => by have := Obt7.out k hk; omega); clear zb
    replace R0 := R0.mark hg (fun k hk => by have := Obt7.out k hk; omega) hz
    replace R1 := R1.mark hg (fun k hk => by have := Obt7.out k hk; omega) hz
    replace R2 := R2.mark hg (fun k hk => by have := Obt7.out k hk; omega) hz
    replace Or4 := Or4.mark hg (fun k k' hk hk' => by have := Obt7.out k hk; have := Obr4.out k' hk'; omega)
    replace Ot5 := Ot5.mark hg (fun k k' hk hk' => by have := Obt7.out k hk; have := Obt5.out k' hk'; omega)
    replace Ot6 := Ot6.mark hg (fun k k' hk hk' => by have := Obt7.out k hk; have := Obt6.out k' hk'; omega)
    replace Or8 := Or8.mark hg (fun k k' hk hk' => by have := Obt7.out k hk; have := Obr8.out k' hk'; omega)
    replace Ot7 := own; clear own
    replace HB := Lib.hid (HB.out.grown hg hz (fun k hk => by have := Obt7.out k hk; omega))
    have hsw_15 : w_14.heap.size ≤ w_15.heap.size := hg.size
    replace hz : w.heap.size ≤ w_15.heap.size := Nat.le_trans hz hsw_15
    clear hg za0 ea00 ea01 ea02 za1 ea10 ea11 ea12 za2 ea20 ea21 ea22 zw0 ew00 ew01 ew02 zx0 ex00 ex01 ex02 zx1 ex10 ex11 ex12 zx2 ex20 ex21 ex22 zg0 eg00 eg01 eg02
    have za0 := Ba0.1
    have ea00 := Ba0.2 0 _ rfl
    have ea01 := Ba0.2 1 _ rfl
    have ea02 := Ba0.2 2 _ rfl
    have za1 := Ba1.1
    have ea10 := Ba1.2 0 _ rfl
    have ea11 := Ba1.2 1 _ rfl
    have ea12 := Ba1.2 2 _ rfl
    have za2 := Ba2.1
    have ea20 := Ba2.2 0 _ rfl
    have ea21 := Ba2.2 1 _ rfl
    have ea22 := Ba2.2 2 _ rfl
    have zw0 := Bw0.1
    have ew00 := Bw0.2 0 _ rfl
    have ew01 := Bw0.2 1 _ rfl
    have ew02 := Bw0.2 2 _ rfl
    have zx0 := Bx0.1
    have ex00 := Bx0.2 0 _ rfl
    have ex01 := Bx0.2 1 _ rfl
    have ex02 := Bx0.2 2 _ rfl
    have zx1 := Bx1.1
    have ex10 := Bx1.2 0 _ rfl
    have ex11 := Bx1.2 1 _ rfl
    have ex12 := Bx1.2 2 _ rfl
    have zx2 := Bx2.1
    have ex20 := Bx2.2 0 _ rfl
    have ex21 := Bx2.2 1 _ rfl
    have ex22 := Bx2.2 2 _ rfl
    have zg0 := Bg0.1
    have eg00 := Bg0.2 0 _ rfl
    have eg01 := Bg0.2 1 _ rfl
    have eg02 := Bg0.2 2 _ rfl
    go_wp2_with fail
    refine (eqChart_same rW rH _ _ _ _ _ _ _ _ ys _ Or8.rd Or4.rd (Nat.le_refl _) (Nat.le_refl _)).mono ?_
    rintro e w_16 ⟨rfl, hb⟩
    replace Ba0 := Ba0.all hb
    replace Ba1 := Ba1.all hb
    replace Ba2 := Ba2.all hb
    replace Bw0 := Bw0.all hb
    replace Bx0 := Bx0.all hb
    replace Bx1 := Bx1.all hb
    replace Bx2 := Bx2.all hb
    replace Bg0 := Bg0.all hb
    replace R0 := R0.all hb hz
    replace R1 := R1.all hb hz
    replace R2 := R2.all hb hz
    replace Or4 := Or4.all hb
    replace Ot5 := Ot5.all hb
    replace Ot6 := Ot6.all hb
    replace Ot7 := Ot7.all hb
    replace Or8 := Or8.all hb
    have hsw_16 : w_15.heap.size ≤ w_16.heap.size := hb.size
    replace HB := Lib.hid (HB.out.trans (hb.mono hz))
    replace hz : w.heap.size ≤ w_16.heap.size := by omega
    clear hb za0 ea00 ea01 ea02 za1 ea10 ea11 ea12 za2 ea20 ea21 ea22 zw0 ew00 ew01 ew02 zx0 ex00 ex01 ex02 zx1 ex10 ex11 ex12 zx2 ex20 ex21 ex22 zg0 eg00 eg01 eg02
    have za0 := Ba0.1
    have ea00 := Ba0.2 0 _ rfl
    have ea01 := Ba0.2 1 _ rfl
    have ea02 := Ba0.2 2 _ rfl
    have za1 := Ba1.1
    have ea10 := Ba1.2 0 _ rfl
    have ea11 := Ba1.2 1 _ rfl
    have ea12 := Ba1.2 2 _ rfl
    have za2 := Ba2.1
    have ea20 := Ba2.2 0 _ rfl
    have ea21 := Ba2.2 1 _ rfl
    have ea22 := Ba2.2 2 _ rfl
    have zw0 := Bw0.1
    have ew00 := Bw0.2 0 _ rfl
    have ew01 := Bw0.2 1 _ rfl
    have ew02 := Bw0.2 2 _ rfl
    have zx0 := Bx0.1
    have ex00 := Bx0.2 0 _ rfl
    have ex01 := Bx0.2 1 _ rfl
    have ex02 := Bx0.2 2 _ rfl
    have zx1 := Bx1.1
    have ex10 := Bx1.2 0 _ rfl
    have ex11 := Bx1.2 1 _ rfl
    have ex12 := Bx1.2 2 _ rfl
    have zx2 := Bx2.1
    have ex20 := Bx2.2 0 _ rfl
    have ex21 := Bx2.2 1 _ rfl
    have ex22 := Bx2.2 2 _ rfl
    have zg0 := Bg0.1
    have eg00 := Bg0.2 0 _ rfl
    have eg01 := Bg0.2 1 _ rfl
    have eg02 := Bg0.2 2 _ rfl
    go_wp2_with fail
    refine (markChart_any rW rH _ _ _ _ _ Or8 hl (by omega) (by omega)).mono ?_
    rintro e w_17 ⟨rfl, own, hg⟩
    have zb := Ba0.1; replace Ba0 := Ba0.mark hg (fun k hk => by have := Obr8.out k hk; omega); clear zb
    have zb := Ba1.1; replace Ba1 := Ba1.mark hg (fun k hk => by have := Obr8.out k hk; omega); clear zb
    have zb := Ba2.1; replace Ba2 := Ba2.mark hg (fun k hk => by have := Obr8.out k hk; omega); clear zb
    have zb := Bw0.1; replace Bw0 := Bw0.mark hg (fun k hk => by have := Obr8.out k hk; omega); clear zb
    have zb := Bx0.1; replace Bx0 := Bx0.mark hg (fun k hk => by have := Obr8.out k hk; omega); clear zb
    have zb := Bx1.1; replace Bx1 := Bx1.mark hg (fun k hk => by have := Obr8.out k hk; omega); clear zb
    have zb := Bx2.1; replace Bx2 := Bx2.mark hg (fun k hk => by have := Obr8.out k hk; omega); clear zb
    have zb := Bg0.1; replace Bg0 := Bg0.mark hg (fun k hk => by have := Obr8.out k hk; omega); clear zb
    replace R0 := R0.mark hg (fun k hk => by have := Obr8.out k hk; omega) hz
    replace R1 := R1.mark hg (fun k hk => by have := Obr8.out k hk; omega) hz
    replace R2 := R2.mark hg (fun k hk => by have := Obr8.out k hk; omega) hz
    replace Or4 := Or4.mark hg (fun k k' hk hk' => by have := Obr8.out k hk; have := Obr4.out k' hk'; omega)
    replace Ot5 := Ot5.mark hg (fun k k' hk hk' => by have := Obr8.out k hk; have := Obt5.out k' hk'; omega)
    replace Ot6 := Ot6.mark hg (fun k k' hk hk' => by have := Obr8.out k hk; have := Obt6.out k' hk'; omega)
    replace Ot7 := Ot7.mark hg (fun k k' hk hk' => by have := Obr8.out k hk; have := Obt7.out k' hk'; omega)
    replace Or8 := own; clear own
    replace HB := Lib.hid (HB.out.grown hg hz (fun k hk => by have := Obr8.out k hk; omega))
    have hsw_17 : w_16.heap.size ≤ w_17.heap.size := hg.size
    replace hz : w.heap.size ≤ w_17.heap.size := Nat.le_trans hz hsw_17
    clear hg za0 ea00 ea01 ea02 za1 ea10 ea11 ea12 za2 ea20 ea21 ea22 zw0 ew00 ew01 ew02 zx0 ex00 ex01 ex02 zx1 ex10 ex11 ex12 zx2 ex20 ex21 ex22 zg0 eg00 eg01 eg02
    have za0 := Ba0.1
    have ea00 := Ba0.2 0 _ rfl
    have ea01 := Ba0.2 1 _ rfl
    have ea02 := Ba0.2 2 _ rfl
    have za1 := Ba1.1
    have ea10 := Ba1.2 0 _ rfl
    have ea11 := Ba1.2 1 _ rfl
    have ea12 := Ba1.2 2 _ rfl
    have za2 := Ba2.1
    have ea20 := Ba2.2 0 _ rfl
    have ea21 := Ba2.2 1 _ rfl
    have ea22 := Ba2.2 2 _ rfl
    have zw0 := Bw0.1
    have ew00 := Bw0.2 0 _ rfl
    have ew01 := Bw0.2 1 _ rfl
    have ew02 := Bw0.2 2 _ rfl
    have zx0 := Bx0.1
    have ex00 := Bx0.2 0 _ rfl
    have ex01 := Bx0.2 1 _ rfl
    have ex02 := Bx0.2 2 _ rfl
    have zx1 := Bx1.1
    have ex10 := Bx1.2 0 _ rfl
    have ex11 := Bx1.2 1 _ rfl
    have ex12 := Bx1.2 2 _ rfl
    have zx2 := Bx2.1
    have ex20 := Bx2.2 0 _ rfl
    have ex21 := Bx2.2 1 _ rfl
    have ex22 := Bx2.2 2 _ rfl
    have zg0 := Bg0.1
    have eg00 := Bg0.2 0 _ rfl
    have eg01 := Bg0.2 1 _ rfl
    have eg02 := Bg0.2 2 _ rfl
    go_wp2_with fail
    refine (heldChart_any rW rH _ _ _ _ _ _ Or8.rd (Nat.le_refl _) hl (by omega) (by omega)).mono ?_
    rintro e w_18 ⟨rfl, hb⟩
    replace Ba0 := Ba0.all hb
    replace Ba1 := Ba1.all hb
    replace Ba2 := Ba2.all hb
    replace Bw0 := Bw0.all hb
    replace Bx0 := Bx0.all hb
    replace Bx1 := Bx1.all hb
    replace Bx2 := Bx2.all hb
    replace Bg0 := Bg0.all hb
    replace R0 := R0.all hb hz
    replace R1 := R1.all hb hz
    replace R2 := R2.all hb hz
    replace Or4 := Or4.all hb
    replace Ot5 := Ot5.all hb
    replace Ot6 := Ot6.all hb
    replace Ot7 := Ot7.all hb
    replace Or8 := Or8.all hb
    have hsw_18 : w_17.heap.size ≤ w_18.heap.size := hb.size
    replace HB := Lib.hid (HB.out.trans (hb.mono hz))
    replace hz : w.heap.size ≤ w_18.heap.size := by omega
    clear hb za0 ea00 ea01 ea02 za1 ea10 ea11 ea12 za2 ea20 ea21 ea22 zw0 ew00 ew01 ew02 zx0 ex00 ex01 ex02 zx1 ex10 ex11 ex12 zx2 ex20 ex21 ex22 zg0 eg00 eg01 eg02
    have za0 := Ba0.1
    have ea00 := Ba0.2 0 _ rfl
    have ea01 := Ba0.2 1 _ rfl
    have ea02 := Ba0.2 2 _ rfl
    have za1 := Ba1.1
    have ea10 := Ba1.2 0 _ rfl
    have ea11 := Ba1.2 1 _ rfl
    have ea12 := Ba1.2 2 _ rfl
    have za2 := Ba2.1
    have ea20 := Ba2.2 0 _ rfl
    have ea21 := Ba2.2 1 _ rfl
    have ea22 := Ba2.2 2 _ rfl
    have zw0 := Bw0.1
    have ew00 := Bw0.2 0 _ rfl
    have ew01 := Bw0.2 1 _ rfl
    have ew02 := Bw0.2 2 _ rfl
    have zx0 := Bx0.1
    have ex00 := Bx0.2 0 _ rfl
    have ex01 := Bx0.2 1 _ rfl
    have ex02 := Bx0.2 2 _ rfl
    have zx1 := Bx1.1
    have ex10 := Bx1.2 0 _ rfl
    have ex11 := Bx1.2 1 _ rfl
    have ex12 := Bx1.2 2 _ rfl
    have zx2 := Bx2.1
    have ex20 := Bx2.2 0 _ rfl
    have ex21 := Bx2.2 1 _ rfl
    have ex22 := Bx2.2 2 _ rfl
    have zg0 := Bg0.1
    have eg00 := Bg0.2 0 _ rfl
    have eg01 := Bg0.2 1 _ rfl
    have eg02 := Bg0.2 2 _ rfl
    go_wp2_with fail
    go_cut [18, 19] (fun sp sk wx => ∃ (q : Nat) (A : Option Addr) (c : Nat), sp = .pointer (some ⟨q, 0, none⟩) ∧ sk = .bool ok ∧ w_18.heap.size ≤ q ∧ Box wx q [.int .i64 rW, .int .i64 rH, .slice A ys.length c] ∧ Own wx w_18.heap.size (.slice A ys.length c) ys ∧ Below w_18.heap.size w_18 wx)
    case first =>
      refine wp_region_noPanic ?_
      refine wp_region_held_drew (S := (fun w' => w'.cell? ⟨w.heap.size, 0, none⟩ = some (.int .i64 W0) ∧ w'.cell? ⟨w.heap.size, 1, none⟩ = some (.int .i64 H0) ∧ w'.cell? ⟨w.heap.size, 2, none⟩ = some (.slice A0 xs0.length c0) ∧ w'.cell? ⟨w.heap.size + 1, 0, none⟩ = some (.int .i64 W1) ∧ w'.cell? ⟨w.heap.size + 1, 1, none⟩ = some (.int .i64 H1) ∧ w'.cell? ⟨w.heap.size + 1, 2, none⟩ = some (.slice A1 xs1.length c1) ∧ w'.cell? ⟨w.heap.size + 2, 0, none⟩ = some (.int .i64 W2) ∧ w'.cell? ⟨w.heap.size + 2, 1, none⟩ = some (.int .i64 H2) ∧ w'.cell? ⟨w.heap.size + 2, 2, none⟩ = some (.slice A2 xs2.length c2))) (by kernel_rfl) (by go_keep) (fun hHeld => ?_)
      refine wpAnyH_take (i := 0) (v := ?_) rfl (by kernel_rfl) (by kernel_rfl) (by kernel_rfl) (fun _ _ _ h => h) (Or.inl ⟨by rfl, ?_⟩) (by assumption) ?_
      rotate_left
      · intro w hSw; (try dsimp only at hSw); go_simp; (try with_reducible rfl)
      (try simp only [Act.put, List.getElem_toArray, List.getElem_cons_zero, List.setIfInBounds_toArray, List.set_cons_zero, List.set_cons_succ])
      refine wpAnyH_take (i := 2) (v := ?_) rfl (by kernel_rfl) (by kernel_rfl) (by kernel_rfl) (fun _ _ _ h => h) (Or.inl ⟨by rfl, ?_⟩) (by assumption) ?_
      rotate_left
      · intro w hSw; (try dsimp only at hSw); go_simp; (try with_reducible rfl)
      (try simp only [Act.put, List.getElem_toArray, List.getElem_cons_zero, List.getElem_cons_succ, List.setIfInBounds_toArray, List.set_cons_zero, List.set_cons_succ])
      refine wpAnyH_take (i := 4) (v := ?_) rfl (by kernel_rfl) (by kernel_rfl) (by kernel_rfl) (fun _ _ _ h => h) (Or.inl ⟨by rfl, ?_⟩) (by assumption) ?_
      rotate_left
      · intro w hSw; (try dsimp only at hSw); go_simp; (try with_reducible rfl)
      (try simp only [Act.put, List.getElem_toArray, List.getElem_cons_zero, List.getElem_cons_succ, List.setIfInBounds_toArray, List.set_cons_zero, List.set_cons_succ])
      have HB0 := belowD (Below.refl w_18.heap.size w_18)
      clear hHeld
      refine wpAnyH_ready (rs := [1, 10]) (by kernel_rfl) (by simp) ?_
      refine AllReadyH.cons rfl (fun K hK => ?_) ?_
      · go_simp
        refine (toChart_any W0 H0 A0 _ c0 w.heap.size xs0 _ (R0.below HB0 hz) (Nat.le_trans hz HB0.size) hn0).mono ?_
        rintro e wq1 ⟨gd0, rfl, own, hb⟩
        have HB1 := HB0.trans (hb.mono HB0.size)
        have O1_0 := own.mono HB0.size
        clear own hb
        refine hK.out _ _ (by exact ⟨cells_of HB1 ea00 za0, cells_of HB1 ea01 za0, cells_of HB1 ea02 za0, cells_of HB1 ea10 za1, cells_of HB1 ea11 za1, cells_of HB1 ea12 za1, cells_of HB1 ea20 za2, cells_of HB1 ea21 za2, cells_of HB1 ea22 za2⟩) (fun hHeld => ?_)
        clear hK K hHeld
        (try simp only [Act.put, List.getElem_toArray, List.getElem_cons_zero, List.getElem_cons_succ, List.setIfInBounds_toArray, List.set_cons_zero, List.set_cons_succ])
        refine wpAnyH_ready (rs := [3, 10]) (by kernel_rfl) (by simp) ?_
        refine AllReadyH.cons rfl (fun K hK => ?_) ?_
        · go_simp
          refine (toChart_any W1 H1 A1 _ c1 w.heap.size xs1 _ (R1.below HB1 hz) (Nat.le_trans hz HB1.size) hn1).mono ?_
          rintro e wq2 ⟨gd1, rfl, own, hb⟩
          have HB2 := HB1.trans (hb.mono HB1.size)
          have O2_0 := O1_0.all hb
          have O2_1 := own.mono HB1.size
          clear own hb
          refine hK.out _ _ (by exact ⟨cells_of HB2 ea00 za0, cells_of HB2 ea01 za0, cells_of HB2 ea02 za0, cells_of HB2 ea10 za1, cells_of HB2 ea11 za1, cells_of HB2 ea12 za1, cells_of HB2 ea20 za2, cells_of HB2 ea21 za2, cells_of HB2 ea22 za2⟩) (fun hHeld => ?_)
          clear hK K hHeld
          (try simp only [Act.put, List.getElem_toArray, List.getElem_cons_zero, List.getElem_cons_succ, List.setIfInBounds_toArray, List.set_cons_zero, List.set_cons_succ])
          refine wpAnyH_ready (rs := [5, 10]) (by kernel_rfl) (by simp) ?_
          refine AllReadyH.cons rfl (fun K hK => ?_) ?_
          · go_simp
            refine (toChart_any W2 H2 A2 _ c2 w.heap.size xs2 _ (R2.below HB2 hz) (Nat.le_trans hz HB2.size) hn2).mono ?_
            rintro e wq3 ⟨gd2, rfl, own, hb⟩
            have HB3 := HB2.trans (hb.mono HB2.size)
            have O3_0 := O2_0.all hb
            have O3_1 := O2_1.all hb
            have O3_2 := own.mono HB2.size
            clear own hb
            refine hK.out _ _ (by exact ⟨cells_of HB3 ea00 za0, cells_of HB3 ea01 za0, cells_of HB3 ea02 za0, cells_of HB3 ea10 za1, cells_of HB3 ea11 za1, cells_of HB3 ea12 za1, cells_of HB3 ea20 za2, cells_of HB3 ea21 za2, cells_of HB3 ea22 za2⟩) (fun hHeld => ?_)
            clear hK K hHeld
            (try simp only [Act.put, List.getElem_toArray, List.getElem_cons_zero, List.getElem_cons_succ, List.setIfInBounds_toArray, List.set_cons_zero, List.set_cons_succ])
            refine wpAnyH_ready (rs := [6, 10]) (by kernel_rfl) (by simp) ?_
            refine AllReadyH.cons rfl (fun K hK => ?_) ?_
            · go_simp
              refine (himpl.out _ _ _ _ _ _ _ O3_0.rd O3_1.rd O3_2.rd).mono ?_
              rintro e wq4 ⟨Ar, cr, rfl, own, hb⟩
              have HB4 := HB3.trans (hb.mono HB3.size)
              have OF4 := own.mono HB3.size
              clear hb
              refine hK.out _ _ (by exact ⟨cells_of HB4 ea00 za0, cells_of HB4 ea01 za0, cells_of HB4 ea02 za0, cells_of HB4 ea10 za1, cells_of HB4 ea11 za1, cells_of HB4 ea12 za1, cells_of HB4 ea20 za2, cells_of HB4 ea21 za2, cells_of HB4 ea22 za2⟩) (fun hHeld => ?_)
              clear hK K
              (try simp only [Act.put, List.getElem_toArray, List.getElem_cons_zero, List.getElem_cons_succ, List.setIfInBounds_toArray, List.set_cons_zero, List.set_cons_succ])
              refine wpAnyH_take (i := 7) (v := ?_) rfl (by kernel_rfl) (by kernel_rfl) (by kernel_rfl) (fun _ _ _ h => h) (Or.inl ⟨by rfl, ?_⟩) (by assumption) ?_
              rotate_left
              · intro w hSw; (try dsimp only at hSw); go_simp; (try with_reducible rfl)
              (try simp only [Act.put, List.getElem_toArray, List.getElem_cons_zero, List.getElem_cons_succ, List.setIfInBounds_toArray, List.set_cons_zero, List.set_cons_succ])
              refine wpAnyH_take (i := 8) (v := ?_) rfl (by kernel_rfl) (by kernel_rfl) (by kernel_rfl) (fun _ _ _ h => h) (Or.inl ⟨by rfl, ?_⟩) (by assumption) ?_
              rotate_left
              · intro w hSw; (try dsimp only at hSw); go_simp; (try with_reducible rfl)
              (try simp only [Act.put, List.getElem_toArray, List.getElem_cons_zero, List.getElem_cons_succ, List.setIfInBounds_toArray, List.set_cons_zero, List.set_cons_succ])
              refine wpAnyH_take (i := 9) (v := ?_) rfl (by kernel_rfl) (by kernel_rfl) (by kernel_rfl) (fun _ _ _ h => h) (Or.inl ⟨by rfl, ?_⟩) (by assumption) ?_
              rotate_left
              · intro w hSw; (try dsimp only at hSw); go_simp; (try with_reducible rfl)
              (try simp only [Act.put, List.getElem_toArray, List.getElem_cons_zero, List.getElem_cons_succ, List.setIfInBounds_toArray, List.set_cons_zero, List.set_cons_succ])
              clear hHeld
              refine wpAnyH_ready (rs := [10]) (by kernel_rfl) (by simp) ?_
              refine AllReadyH.cons rfl (fun K hK => ?_) ?_
              · go_simp
                have HB5 := HB4.alloc HB4.size (.cells #[.int .i64 0, .int .i64 0, .slice none 0 0] 28)
                have O5_0 := O3_0.alloc (.cells #[.int .i64 0, .int .i64 0, .slice none 0 0] 28)
                have O5_1 := O3_1.alloc (.cells #[.int .i64 0, .int .i64 0, .slice none 0 0] 28)
                have O5_2 := O3_2.alloc (.cells #[.int .i64 0, .int .i64 0, .slice none 0 0] 28)
                have OF5 := OF4.alloc (.cells #[.int .i64 0, .int .i64 0, .slice none 0 0] 28)
                have Z5 : Blk _ wq4.heap.size _ _ := Blk.new wq4 #[.int .i64 0, .int .i64 0, .slice none 0 0] 28
                have hq5 : w_18.heap.size ≤ wq4.heap.size := HB4.size
                refine hK.out _ _ (by exact ⟨cells_of HB5 ea00 za0, cells_of HB5 ea01 za0, cells_of HB5 ea02 za0, cells_of HB5 ea10 za1, cells_of HB5 ea11 za1, cells_of HB5 ea12 za1, cells_of HB5 ea20 za2, cells_of HB5 ea21 za2, cells_of HB5 ea22 za2⟩) (fun hHeld => ?_)
                clear hK K hHeld
                (try simp only [Act.put, List.getElem_toArray, List.getElem_cons_zero, List.getElem_cons_succ, List.setIfInBounds_toArray, List.set_cons_zero, List.set_cons_succ])
                refine wpAnyH_ready (rs := [11]) (by kernel_rfl) (by simp) ?_
                refine AllReadyH.cons rfl (fun K hK => ?_) ?_
                · go_simp
                  have HB6 := HB4.alloc HB4.size (.cells #[.int .i64 rW, .int .i64 rH, .slice Ar ys.length cr] 28)
                  have OF6 := OF4.alloc (.cells #[.int .i64 rW, .int .i64 rH, .slice Ar ys.length cr] 28)
                  have Z6 := Blk.new wq4 #[.int .i64 rW, .int .i64 rH, .slice Ar ys.length cr] 28
                  refine hK.out _ _ (by exact ⟨cells_of HB6 ea00 za0, cells_of HB6 ea01 za0, cells_of HB6 ea02 za0, cells_of HB6 ea10 za1, cells_of HB6 ea11 za1, cells_of HB6 ea12 za1, cells_of HB6 ea20 za2, cells_of HB6 ea21 za2, cells_of HB6 ea22 za2⟩) (fun hHeld => ?_)
                  clear hK K
                  (try simp only [Act.put, List.getElem_toArray, List.getElem_cons_zero, List.getElem_cons_succ, List.setIfInBounds_toArray, List.set_cons_zero, List.set_cons_succ])
                  refine wpAnyH_take (i := 12) (v := ?_) rfl (by kernel_rfl) (by kernel_rfl) (by kernel_rfl) (fun _ _ _ h => h) (Or.inl ⟨by rfl, ?_⟩) (by assumption) ?_
                  rotate_left
                  · intro w hSw; (try dsimp only at hSw); go_simp; (try with_reducible rfl)
                  (try simp only [Act.put, List.getElem_toArray, List.getElem_cons_zero, List.getElem_cons_succ, List.setIfInBounds_toArray, List.set_cons_zero, List.set_cons_succ])
                  clear hHeld
                  refine wpAnyH_done (by kernel_rfl) ?_ _
                  refine NoPanic.normal ?_
                  go_wp2_with fail
                  go_meet
                  exact ⟨wq4.heap.size, Ar, cr, rfl, rfl, hq5, Z6.box, OF6, HB6⟩
                exact AllReadyH.nil
              exact AllReadyH.nil
            refine AllReadyH.cons rfl (fun K hK => ?_) ?_
            · go_simp
              have HB7 := HB3.alloc HB3.size (.cells #[.int .i64 0, .int .i64 0, .slice none 0 0] 28)
              have O7_0 := O3_0.alloc (.cells #[.int .i64 0, .int .i64 0, .slice none 0 0] 28)
              have O7_1 := O3_1.alloc (.cells #[.int .i64 0, .int .i64 0, .slice none 0 0] 28)
              have O7_2 := O3_2.alloc (.cells #[.int .i64 0, .int .i64 0, .slice none 0 0] 28)
              have Z7 : Blk _ wq3.heap.size _ _ := Blk.new wq3 #[.int .i64 0, .int .i64 0, .slice none 0 0] 28
              have hq7 : w_18.heap.size ≤ wq3.heap.size := HB3.size
              refine hK.out _ _ (by exact ⟨cells_of HB7 ea00 za0, cells_of HB7 ea01 za0, cells_of HB7 ea02 za0, cells_of HB7 ea10 za1, cells_of HB7 ea11 za1, cells_of HB7 ea12 za1, cells_of HB7 ea20 za2, cells_of HB7 ea21 za2, cells_of HB7 ea22 za2⟩) (fun hHeld => ?_)
              clear hK K hHeld
              (try simp only [Act.put, List.getElem_toArray, List.getElem_cons_zero, List.getElem_cons_succ, List.setIfInBounds_toArray, List.set_cons_zero, List.set_cons_succ])
              refine wpAnyH_ready (rs := [6]) (by kernel_rfl) (by simp) ?_
              refine AllReadyH.cons rfl (fun K hK => ?_) ?_
              · go_simp
                refine (himpl.out _ _ _ _ _ _ _ O7_0.rd O7_1.rd O7_2.rd).mono ?_
                rintro e wq8 ⟨Ar, cr, rfl, own, hb⟩
                have HB8 := HB7.trans (hb.mono HB7.size)
                have Z8 := Z7.all hb
                have OF8 := own.mono HB7.size
                clear hb
                refine hK.out _ _ (by exact ⟨cells_of HB8 ea00 za0, cells_of HB8 ea01 za0, cells_of HB8 ea02 za0, cells_of HB8 ea10 za1, cells_of HB8 ea11 za1, cells_of HB8 ea12 za1, cells_of HB8 ea20 za2, cells_of HB8 ea21 za2, cells_of HB8 ea22 za2⟩) (fun hHeld => ?_)
                clear hK K
                (try simp only [Act.put, List.getElem_toArray, List.getElem_cons_zero, List.getElem_cons_succ, List.setIfInBounds_toArray, List.set_cons_zero, List.set_cons_succ])
                refine wpAnyH_take (i := 7) (v := ?_) rfl (by kernel_rfl) (by kernel_rfl) (by kernel_rfl) (fun _ _ _ h => h) (Or.inl ⟨by rfl, ?_⟩) (by assumption) ?_
                rotate_left
                · intro w hSw; (try dsimp only at hSw); go_simp; (try with_reducible rfl)
                (try simp only [Act.put, List.getElem_toArray, List.getElem_cons_zero, List.getElem_cons_succ, List.setIfInBounds_toArray, List.set_cons_zero, List.set_cons_succ])
                refine wpAnyH_take (i := 8) (v := ?_) rfl (by kernel_rfl) (by kernel_rfl) (by kernel_rfl) (fun _ _ _ h => h) (Or.inl ⟨by rfl, ?_⟩) (by assumption) ?_
                rotate_left
                · intro w hSw; (try dsimp only at hSw); go_simp; (try with_reducible rfl)
                (try simp only [Act.put, List.getElem_toArray, List.getElem_cons_zero, List.getElem_cons_succ, List.setIfInBounds_toArray, List.set_cons_zero, List.set_cons_succ])
                refine wpAnyH_take (i := 9) (v := ?_) rfl (by kernel_rfl) (by kernel_rfl) (by kernel_rfl) (fun _ _ _ h => h) (Or.inl ⟨by rfl, ?_⟩) (by assumption) ?_
                rotate_left
                · intro w hSw; (try dsimp only at hSw); go_simp; (try with_reducible rfl)
                (try simp only [Act.put, List.getElem_toArray, List.getElem_cons_zero, List.getElem_cons_succ, List.setIfInBounds_toArray, List.set_cons_zero, List.set_cons_succ])
                clear hHeld
                refine wpAnyH_ready (rs := [11]) (by kernel_rfl) (by simp) ?_
                refine AllReadyH.cons rfl (fun K hK => ?_) ?_
                · have zz0 := Z8.cell 0
                  have zz1 := Z8.cell 1
                  have zz2 := Z8.cell 2
                  have zf0 := Z8.frozen 0
                  have zf1 := Z8.frozen 1
                  have zf2 := Z8.frozen 2
                  go_simp
                  have HB9 := (((HB8.setCell (p := ⟨wq3.heap.size, 0, none⟩) hq7 (.int .i64 rW)).setCell (p := ⟨wq3.heap.size, 1, none⟩) hq7 (.int .i64 rH)).setCell (p := ⟨wq3.heap.size, 2, none⟩) hq7 (.slice Ar ys.length cr))
                  have hne9 := row_ne' OF8.1 Z8 (by decide)
                  have OF9 := (((OF8.far (a := ⟨wq3.heap.size, 0, none⟩) hne9 (.int .i64 rW)).far (a := ⟨wq3.heap.size, 1, none⟩) hne9 (.int .i64 rH)).far (a := ⟨wq3.heap.size, 2, none⟩) hne9 (.slice Ar ys.length cr))
                  have Z9 : Blk _ _ _ #[.int .i64 rW, .int .i64 rH, .slice Ar ys.length cr] := Z8.put3t
                  clear zz0 zz1 zz2 zf0 zf1 zf2
                  refine hK.out _ _ (by exact ⟨cells_of HB9 ea00 za0, cells_of HB9 ea01 za0, cells_of HB9 ea02 za0, cells_of HB9 ea10 za1, cells_of HB9 ea11 za1, cells_of HB9 ea12 za1, cells_of HB9 ea20 za2, cells_of HB9 ea21 za2, cells_of HB9 ea22 za2⟩) (fun hHeld => ?_)
                  clear hK K
                  (try simp only [Act.put, List.getElem_toArray, List.getElem_cons_zero, List.getElem_cons_succ, List.setIfInBounds_toArray, List.set_cons_zero, List.set_cons_succ])
                  refine wpAnyH_take (i := 12) (v := ?_) rfl (by kernel_rfl) (by kernel_rfl) (by kernel_rfl) (fun _ _ _ h => h) (Or.inl ⟨by rfl, ?_⟩) (by assumption) ?_
                  rotate_left
                  · intro w hSw; (try dsimp only at hSw); go_simp; (try with_reducible rfl)
                  (try simp only [Act.put, List.getElem_toArray, List.getElem_cons_zero, List.getElem_cons_succ, List.setIfInBounds_toArray, List.set_cons_zero, List.set_cons_succ])
                  clear hHeld
                  refine wpAnyH_done (by kernel_rfl) ?_ _
                  refine NoPanic.normal ?_
                  go_wp2_with fail
                  go_meet
                  exact ⟨wq3.heap.size, Ar, cr, rfl, rfl, hq7, Z9.box, OF9, HB9⟩
                exact AllReadyH.nil
              exact AllReadyH.nil
            exact AllReadyH.nil
          refine AllReadyH.cons rfl (fun K hK => ?_) ?_
          · go_simp
            have HB10 := HB2.alloc HB2.size (.cells #[.int .i64 0, .int .i64 0, .slice none 0 0] 28)
            have O10_0 := O2_0.alloc (.cells #[.int .i64 0, .int .i64 0, .slice none 0 0] 28)
            have O10_1 := O2_1.alloc (.cells #[.int .i64 0, .int .i64 0, .slice none 0 0] 28)
            have Z10 : Blk _ wq2.heap.size _ _ := Blk.new wq2 #[.int .i64 0, .int .i64 0, .slice none 0 0] 28
            have hq10 : w_18.heap.size ≤ wq2.heap.size := HB2.size
            refine hK.out _ _ (by exact ⟨cells_of HB10 ea00 za0, cells_of HB10 ea01 za0, cells_of HB10 ea02 za0, cells_of HB10 ea10 za1, cells_of HB10 ea11 za1, cells_of HB10 ea12 za1, cells_of HB10 ea20 za2, cells_of HB10 ea21 za2, cells_of HB10 ea22 za2⟩) (fun hHeld => ?_)
            clear hK K hHeld
            (try simp only [Act.put, List.getElem_toArray, List.getElem_cons_zero, List.getElem_cons_succ, List.setIfInBounds_toArray, List.set_cons_zero, List.set_cons_succ])
            refine wpAnyH_ready (rs := [5]) (by kernel_rfl) (by simp) ?_
            refine AllReadyH.cons rfl (fun K hK => ?_) ?_
            · go_simp
              refine (toChart_any W2 H2 A2 _ c2 w.heap.size xs2 _ (R2.below HB10 hz) (Nat.le_trans hz HB10.size) hn2).mono ?_
              rintro e wq11 ⟨gd2, rfl, own, hb⟩
              have HB11 := HB10.trans (hb.mono HB10.size)
              have O11_0 := O10_0.all hb
              have O11_1 := O10_1.all hb
              have O11_2 := own.mono HB10.size
              have Z11 := Z10.all hb
              clear own hb
              refine hK.out _ _ (by exact ⟨cells_of HB11 ea00 za0, cells_of HB11 ea01 za0, cells_of HB11 ea02 za0, cells_of HB11 ea10 za1, cells_of HB11 ea11 za1, cells_of HB11 ea12 za1, cells_of HB11 ea20 za2, cells_of HB11 ea21 za2, cells_of HB11 ea22 za2⟩) (fun hHeld => ?_)
              clear hK K hHeld
              (try simp only [Act.put, List.getElem_toArray, List.getElem_cons_zero, List.getElem_cons_succ, List.setIfInBounds_toArray, List.set_cons_zero, List.set_cons_succ])
              refine wpAnyH_ready (rs := [6]) (by kernel_rfl) (by simp) ?_
              refine AllReadyH.cons rfl (fun K hK => ?_) ?_
              · go_simp
                refine (himpl.out _ _ _ _ _ _ _ O11_0.rd O11_1.rd O11_2.rd).mono ?_
                rintro e wq12 ⟨Ar, cr, rfl, own, hb⟩
                have HB12 := HB11.trans (hb.mono HB11.size)
                have Z12 := Z11.all hb
                have OF12 := own.mono HB11.size
                clear hb
                refine hK.out _ _ (by exact ⟨cells_of HB12 ea00 za0, cells_of HB12 ea01 za0, cells_of HB12 ea02 za0, cells_of HB12 ea10 za1, cells_of HB12 ea11 za1, cells_of HB12 ea12 za1, cells_of HB12 ea20 za2, cells_of HB12 ea21 za2, cells_of HB12 ea22 za2⟩) (fun hHeld => ?_)
                clear hK K
                (try simp only [Act.put, List.getElem_toArray, List.getElem_cons_zero, List.getElem_cons_succ, List.setIfInBounds_toArray, List.set_cons_zero, List.set_cons_succ])
                refine wpAnyH_take (i := 7) (v := ?_) rfl (by kernel_rfl) (by kernel_rfl) (by kernel_rfl) (fun _ _ _ h => h) (Or.inl ⟨by rfl, ?_⟩) (by assumption) ?_
                rotate_left
                · intro w hSw; (try dsimp only at hSw); go_simp; (try with_reducible rfl)
                (try simp only [Act.put, List.getElem_toArray, List.getElem_cons_zero, List.getElem_cons_succ, List.setIfInBounds_toArray, List.set_cons_zero, List.set_cons_succ])
                refine wpAnyH_take (i := 8) (v := ?_) rfl (by kernel_rfl) (by kernel_rfl) (by kernel_rfl) (fun _ _ _ h => h) (Or.inl ⟨by rfl, ?_⟩) (by assumption) ?_
                rotate_left
                · intro w hSw; (try dsimp only at hSw); go_simp; (try with_reducible rfl)
                (try simp only [Act.put, List.getElem_toArray, List.getElem_cons_zero, List.getElem_cons_succ, List.setIfInBounds_toArray, List.set_cons_zero, List.set_cons_succ])
                refine wpAnyH_take (i := 9) (v := ?_) rfl (by kernel_rfl) (by kernel_rfl) (by kernel_rfl) (fun _ _ _ h => h) (Or.inl ⟨by rfl, ?_⟩) (by assumption) ?_
                rotate_left
                · intro w hSw; (try dsimp only at hSw); go_simp; (try with_reducible rfl)
                (try simp only [Act.put, List.getElem_toArray, List.getElem_cons_zero, List.getElem_cons_succ, List.setIfInBounds_toArray, List.set_cons_zero, List.set_cons_succ])
                clear hHeld
                refine wpAnyH_ready (rs := [11]) (by kernel_rfl) (by simp) ?_
                refine AllReadyH.cons rfl (fun K hK => ?_) ?_
                · have zz0 := Z12.cell 0
                  have zz1 := Z12.cell 1
                  have zz2 := Z12.cell 2
                  have zf0 := Z12.frozen 0
                  have zf1 := Z12.frozen 1
                  have zf2 := Z12.frozen 2
                  go_simp
                  have HB13 := (((HB12.setCell (p := ⟨wq2.heap.size, 0, none⟩) hq10 (.int .i64 rW)).setCell (p := ⟨wq2.heap.size, 1, none⟩) hq10 (.int .i64 rH)).setCell (p := ⟨wq2.heap.size, 2, none⟩) hq10 (.slice Ar ys.length cr))
                  have hne13 := row_ne' OF12.1 Z12 (by decide)
                  have OF13 := (((OF12.far (a := ⟨wq2.heap.size, 0, none⟩) hne13 (.int .i64 rW)).far (a := ⟨wq2.heap.size, 1, none⟩) hne13 (.int .i64 rH)).far (a := ⟨wq2.heap.size, 2, none⟩) hne13 (.slice Ar ys.length cr))
                  have Z13 : Blk _ _ _ #[.int .i64 rW, .int .i64 rH, .slice Ar ys.length cr] := Z12.put3t
                  clear zz0 zz1 zz2 zf0 zf1 zf2
                  refine hK.out _ _ (by exact ⟨cells_of HB13 ea00 za0, cells_of HB13 ea01 za0, cells_of HB13 ea02 za0, cells_of HB13 ea10 za1, cells_of HB13 ea11 za1, cells_of HB13 ea12 za1, cells_of HB13 ea20 za2, cells_of HB13 ea21 za2, cells_of HB13 ea22 za2⟩) (fun hHeld => ?_)
                  clear hK K
                  (try simp only [Act.put, List.getElem_toArray, List.getElem_cons_zero, List.getElem_cons_succ, List.setIfInBounds_toArray, List.set_cons_zero, List.set_cons_succ])
                  refine wpAnyH_take (i := 12) (v := ?_) rfl (by kernel_rfl) (by kernel_rfl) (by kernel_rfl) (fun _ _ _ h => h) (Or.inl ⟨by rfl, ?_⟩) (by assumption) ?_
                  rotate_left
                  · intro w hSw; (try dsimp only at hSw); go_simp; (try with_reducible rfl)
                  (try simp only [Act.put, List.getElem_toArray, List.getElem_cons_zero, List.getElem_cons_succ, List.setIfInBounds_toArray, List.set_cons_zero, List.set_cons_succ])
                  clear hHeld
                  refine wpAnyH_done (by kernel_rfl) ?_ _
                  refine NoPanic.normal ?_
                  go_wp2_with fail
                  go_meet
                  exact ⟨wq2.heap.size, Ar, cr, rfl, rfl, hq10, Z13.box, OF13, HB13⟩
                exact AllReadyH.nil
              exact AllReadyH.nil
            exact AllReadyH.nil
          exact AllReadyH.nil
        refine AllReadyH.cons rfl (fun K hK => ?_) ?_
        · go_simp
          have HB14 := HB1.alloc HB1.size (.cells #[.int .i64 0, .int .i64 0, .slice none 0 0] 28)
          have O14_0 := O1_0.alloc (.cells #[.int .i64 0, .int .i64 0, .slice none 0 0] 28)
          have Z14 : Blk _ wq1.heap.size _ _ := Blk.new wq1 #[.int .i64 0, .int .i64 0, .slice none 0 0] 28
          have hq14 : w_18.heap.size ≤ wq1.heap.size := HB1.size
          refine hK.out _ _ (by exact ⟨cells_of HB14 ea00 za0, cells_of HB14 ea01 za0, cells_of HB14 ea02 za0, cells_of HB14 ea10 za1, cells_of HB14 ea11 za1, cells_of HB14 ea12 za1, cells_of HB14 ea20 za2, cells_of HB14 ea21 za2, cells_of HB14 ea22 za2⟩) (fun hHeld => ?_)
          clear hK K hHeld
          (try simp only [Act.put, List.getElem_toArray, List.getElem_cons_zero, List.getElem_cons_succ, List.setIfInBounds_toArray, List.set_cons_zero, List.set_cons_succ])
          refine wpAnyH_ready (rs := [3]) (by kernel_rfl) (by simp) ?_
          refine AllReadyH.cons rfl (fun K hK => ?_) ?_
          · go_simp
            refine (toChart_any W1 H1 A1 _ c1 w.heap.size xs1 _ (R1.below HB14 hz) (Nat.le_trans hz HB14.size) hn1).mono ?_
            rintro e wq15 ⟨gd1, rfl, own, hb⟩
            have HB15 := HB14.trans (hb.mono HB14.size)
            have O15_0 := O14_0.all hb
            have O15_1 := own.mono HB14.size
            have Z15 := Z14.all hb
            clear own hb
            refine hK.out _ _ (by exact ⟨cells_of HB15 ea00 za0, cells_of HB15 ea01 za0, cells_of HB15 ea02 za0, cells_of HB15 ea10 za1, cells_of HB15 ea11 za1, cells_of HB15 ea12 za1, cells_of HB15 ea20 za2, cells_of HB15 ea21 za2, cells_of HB15 ea22 za2⟩) (fun hHeld => ?_)
            clear hK K hHeld
            (try simp only [Act.put, List.getElem_toArray, List.getElem_cons_zero, List.getElem_cons_succ, List.setIfInBounds_toArray, List.set_cons_zero, List.set_cons_succ])
            refine wpAnyH_ready (rs := [5]) (by kernel_rfl) (by simp) ?_
            refine AllReadyH.cons rfl (fun K hK => ?_) ?_
            · go_simp
              refine (toChart_any W2 H2 A2 _ c2 w.heap.size xs2 _ (R2.below HB15 hz) (Nat.le_trans hz HB15.size) hn2).mono ?_
              rintro e wq16 ⟨gd2, rfl, own, hb⟩
              have HB16 := HB15.trans (hb.mono HB15.size)
              have O16_0 := O15_0.all hb
              have O16_1 := O15_1.all hb
              have O16_2 := own.mono HB15.size
              have Z16 := Z15.all hb
              clear own hb
              refine hK.out _ _ (by exact ⟨cells_of HB16 ea00 za0, cells_of HB16 ea01 za0, cells_of HB16 ea02 za0, cells_of HB16 ea10 za1, cells_of HB16 ea11 za1, cells_of HB16 ea12 za1, cells_of HB16 ea20 za2, cells_of HB16 ea21 za2, cells_of HB16 ea22 za2⟩) (fun hHeld => ?_)
              clear hK K hHeld
              (try simp only [Act.put, List.getElem_toArray, List.getElem_cons_zero, List.getElem_cons_succ, List.setIfInBounds_toArray, List.set_cons_zero, List.set_cons_succ])
              refine wpAnyH_ready (rs := [6]) (by kernel_rfl) (by simp) ?_
              refine AllReadyH.cons rfl (fun K hK => ?_) ?_
              · go_simp
                refine (himpl.out _ _ _ _ _ _ _ O16_0.rd O16_1.rd O16_2.rd).mono ?_
                rintro e wq17 ⟨Ar, cr, rfl, own, hb⟩
                have HB17 := HB16.trans (hb.mono HB16.size)
                have Z17 := Z16.all hb
                have OF17 := own.mono HB16.size
                clear hb
                refine hK.out _ _ (by exact ⟨cells_of HB17 ea00 za0, cells_of HB17 ea01 za0, cells_of HB17 ea02 za0, cells_of HB17 ea10 za1, cells_of HB17 ea11 za1, cells_of HB17 ea12 za1, cells_of HB17 ea20 za2, cells_of HB17 ea21 za2, cells_of HB17 ea22 za2⟩) (fun hHeld => ?_)
                clear hK K
                (try simp only [Act.put, List.getElem_toArray, List.getElem_cons_zero, List.getElem_cons_succ, List.setIfInBounds_toArray, List.set_cons_zero, List.set_cons_succ])
                refine wpAnyH_take (i := 7) (v := ?_) rfl (by kernel_rfl) (by kernel_rfl) (by kernel_rfl) (fun _ _ _ h => h) (Or.inl ⟨by rfl, ?_⟩) (by assumption) ?_
                rotate_left
                · intro w hSw; (try dsimp only at hSw); go_simp; (try with_reducible rfl)
                (try simp only [Act.put, List.getElem_toArray, List.getElem_cons_zero, List.getElem_cons_succ, List.setIfInBounds_toArray, List.set_cons_zero, List.set_cons_succ])
                refine wpAnyH_take (i := 8) (v := ?_) rfl (by kernel_rfl) (by kernel_rfl) (by kernel_rfl) (fun _ _ _ h => h) (Or.inl ⟨by rfl, ?_⟩) (by assumption) ?_
                rotate_left
                · intro w hSw; (try dsimp only at hSw); go_simp; (try with_reducible rfl)
                (try simp only [Act.put, List.getElem_toArray, List.getElem_cons_zero, List.getElem_cons_succ, List.setIfInBounds_toArray, List.set_cons_zero, List.set_cons_succ])
                refine wpAnyH_take (i := 9) (v := ?_) rfl (by kernel_rfl) (by kernel_rfl) (by kernel_rfl) (fun _ _ _ h => h) (Or.inl ⟨by rfl, ?_⟩) (by assumption) ?_
                rotate_left
                · intro w hSw; (try dsimp only at hSw); go_simp; (try with_reducible rfl)
                (try simp only [Act.put, List.getElem_toArray, List.getElem_cons_zero, List.getElem_cons_succ, List.setIfInBounds_toArray, List.set_cons_zero, List.set_cons_succ])
                clear hHeld
                refine wpAnyH_ready (rs := [11]) (by kernel_rfl) (by simp) ?_
                refine AllReadyH.cons rfl (fun K hK => ?_) ?_
                · have zz0 := Z17.cell 0
                  have zz1 := Z17.cell 1
                  have zz2 := Z17.cell 2
                  have zf0 := Z17.frozen 0
                  have zf1 := Z17.frozen 1
                  have zf2 := Z17.frozen 2
                  go_simp
                  have HB18 := (((HB17.setCell (p := ⟨wq1.heap.size, 0, none⟩) hq14 (.int .i64 rW)).setCell (p := ⟨wq1.heap.size, 1, none⟩) hq14 (.int .i64 rH)).setCell (p := ⟨wq1.heap.size, 2, none⟩) hq14 (.slice Ar ys.length cr))
                  have hne18 := row_ne' OF17.1 Z17 (by decide)
                  have OF18 := (((OF17.far (a := ⟨wq1.heap.size, 0, none⟩) hne18 (.int .i64 rW)).far (a := ⟨wq1.heap.size, 1, none⟩) hne18 (.int .i64 rH)).far (a := ⟨wq1.heap.size, 2, none⟩) hne18 (.slice Ar ys.length cr))
                  have Z18 : Blk _ _ _ #[.int .i64 rW, .int .i64 rH, .slice Ar ys.length cr] := Z17.put3t
                  clear zz0 zz1 zz2 zf0 zf1 zf2
                  refine hK.out _ _ (by exact ⟨cells_of HB18 ea00 za0, cells_of HB18 ea01 za0, cells_of HB18 ea02 za0, cells_of HB18 ea10 za1, cells_of HB18 ea11 za1, cells_of HB18 ea12 za1, cells_of HB18 ea20 za2, cells_of HB18 ea21 za2, cells_of HB18 ea22 za2⟩) (fun hHeld => ?_)
                  clear hK K
                  (try simp only [Act.put, List.getElem_toArray, List.getElem_cons_zero, List.getElem_cons_succ, List.setIfInBounds_toArray, List.set_cons_zero, List.set_cons_succ])
                  refine wpAnyH_take (i := 12) (v := ?_) rfl (by kernel_rfl) (by kernel_rfl) (by kernel_rfl) (fun _ _ _ h => h) (Or.inl ⟨by rfl, ?_⟩) (by assumption) ?_
                  rotate_left
                  · intro w hSw; (try dsimp only at hSw); go_simp; (try with_reducible rfl)
                  (try simp only [Act.put, List.getElem_toArray, List.getElem_cons_zero, List.getElem_cons_succ, List.setIfInBounds_toArray, List.set_cons_zero, List.set_cons_succ])
                  clear hHeld
                  refine wpAnyH_done (by kernel_rfl) ?_ _
                  refine NoPanic.normal ?_
                  go_wp2_with fail
                  go_meet
                  exact ⟨wq1.heap.size, Ar, cr, rfl, rfl, hq14, Z18.box, OF18, HB18⟩
                exact AllReadyH.nil
              exact AllReadyH.nil
            exact AllReadyH.nil
          exact AllReadyH.nil
        exact AllReadyH.nil
      refine AllReadyH.cons rfl (fun K hK => ?_) ?_
      · go_simp
        have HB19 := HB0.alloc HB0.size (.cells #[.int .i64 0, .int .i64 0, .slice none 0 0] 28)
        have Z19 : Blk _ w_18.heap.size _ _ := Blk.new w_18.drew #[.int .i64 0, .int .i64 0, .slice none 0 0] 28
        have hq19 : w_18.heap.size ≤ w_18.heap.size := HB0.size
        refine hK.out _ _ (by exact ⟨cells_of HB19 ea00 za0, cells_of HB19 ea01 za0, cells_of HB19 ea02 za0, cells_of HB19 ea10 za1, cells_of HB19 ea11 za1, cells_of HB19 ea12 za1, cells_of HB19 ea20 za2, cells_of HB19 ea21 za2, cells_of HB19 ea22 za2⟩) (fun hHeld => ?_)
        clear hK K hHeld
        (try simp only [Act.put, List.getElem_toArray, List.getElem_cons_zero, List.getElem_cons_succ, List.setIfInBounds_toArray, List.set_cons_zero, List.set_cons_succ])
        refine wpAnyH_ready (rs := [1]) (by kernel_rfl) (by simp) ?_
        refine AllReadyH.cons rfl (fun K hK => ?_) ?_
        · go_simp
          refine (toChart_any W0 H0 A0 _ c0 w.heap.size xs0 _ (R0.below HB19 hz) (Nat.le_trans hz HB19.size) hn0).mono ?_
          rintro e wq20 ⟨gd0, rfl, own, hb⟩
          have HB20 := HB19.trans (hb.mono HB19.size)
          have O20_0 := own.mono HB19.size
          have Z20 := Z19.all hb
          clear own hb
          refine hK.out _ _ (by exact ⟨cells_of HB20 ea00 za0, cells_of HB20 ea01 za0, cells_of HB20 ea02 za0, cells_of HB20 ea10 za1, cells_of HB20 ea11 za1, cells_of HB20 ea12 za1, cells_of HB20 ea20 za2, cells_of HB20 ea21 za2, cells_of HB20 ea22 za2⟩) (fun hHeld => ?_)
          clear hK K hHeld
          (try simp only [Act.put, List.getElem_toArray, List.getElem_cons_zero, List.getElem_cons_succ, List.setIfInBounds_toArray, List.set_cons_zero, List.set_cons_succ])
          refine wpAnyH_ready (rs := [3]) (by kernel_rfl) (by simp) ?_
          refine AllReadyH.cons rfl (fun K hK => ?_) ?_
          · go_simp
            refine (toChart_any W1 H1 A1 _ c1 w.heap.size xs1 _ (R1.below HB20 hz) (Nat.le_trans hz HB20.size) hn1).mono ?_
            rintro e wq21 ⟨gd1, rfl, own, hb⟩
            have HB21 := HB20.trans (hb.mono HB20.size)
            have O21_0 := O20_0.all hb
            have O21_1 := own.mono HB20.size
            have Z21 := Z20.all hb
            clear own hb
            refine hK.out _ _ (by exact ⟨cells_of HB21 ea00 za0, cells_of HB21 ea01 za0, cells_of HB21 ea02 za0, cells_of HB21 ea10 za1, cells_of HB21 ea11 za1, cells_of HB21 ea12 za1, cells_of HB21 ea20 za2, cells_of HB21 ea21 za2, cells_of HB21 ea22 za2⟩) (fun hHeld => ?_)
            clear hK K hHeld
            (try simp only [Act.put, List.getElem_toArray, List.getElem_cons_zero, List.getElem_cons_succ, List.setIfInBounds_toArray, List.set_cons_zero, List.set_cons_succ])
            refine wpAnyH_ready (rs := [5]) (by kernel_rfl) (by simp) ?_
            refine AllReadyH.cons rfl (fun K hK => ?_) ?_
            · go_simp
              refine (toChart_any W2 H2 A2 _ c2 w.heap.size xs2 _ (R2.below HB21 hz) (Nat.le_trans hz HB21.size) hn2).mono ?_
              rintro e wq22 ⟨gd2, rfl, own, hb⟩
              have HB22 := HB21.trans (hb.mono HB21.size)
              have O22_0 := O21_0.all hb
              have O22_1 := O21_1.all hb
              have O22_2 := own.mono HB21.size
              have Z22 := Z21.all hb
              clear own hb
              refine hK.out _ _ (by exact ⟨cells_of HB22 ea00 za0, cells_of HB22 ea01 za0, cells_of HB22 ea02 za0, cells_of HB22 ea10 za1, cells_of HB22 ea11 za1, cells_of HB22 ea12 za1, cells_of HB22 ea20 za2, cells_of HB22 ea21 za2, cells_of HB22 ea22 za2⟩) (fun hHeld => ?_)
              clear hK K hHeld
              (try simp only [Act.put, List.getElem_toArray, List.getElem_cons_zero, List.getElem_cons_succ, List.setIfInBounds_toArray, List.set_cons_zero, List.set_cons_succ])
              refine wpAnyH_ready (rs := [6]) (by kernel_rfl) (by simp) ?_
              refine AllReadyH.cons rfl (fun K hK => ?_) ?_
              · go_simp
                refine (himpl.out _ _ _ _ _ _ _ O22_0.rd O22_1.rd O22_2.rd).mono ?_
                rintro e wq23 ⟨Ar, cr, rfl, own, hb⟩
                have HB23 := HB22.trans (hb.mono HB22.size)
                have Z23 := Z22.all hb
                have OF23 := own.mono HB22.size
                clear hb
                refine hK.out _ _ (by exact ⟨cells_of HB23 ea00 za0, cells_of HB23 ea01 za0, cells_of HB23 ea02 za0, cells_of HB23 ea10 za1, cells_of HB23 ea11 za1, cells_of HB23 ea12 za1, cells_of HB23 ea20 za2, cells_of HB23 ea21 za2, cells_of HB23 ea22 za2⟩) (fun hHeld => ?_)
                clear hK K
                (try simp only [Act.put, List.getElem_toArray, List.getElem_cons_zero, List.getElem_cons_succ, List.setIfInBounds_toArray, List.set_cons_zero, List.set_cons_succ])
                refine wpAnyH_take (i := 7) (v := ?_) rfl (by kernel_rfl) (by kernel_rfl) (by kernel_rfl) (fun _ _ _ h => h) (Or.inl ⟨by rfl, ?_⟩) (by assumption) ?_
                rotate_left
                · intro w hSw; (try dsimp only at hSw); go_simp; (try with_reducible rfl)
                (try simp only [Act.put, List.getElem_toArray, List.getElem_cons_zero, List.getElem_cons_succ, List.setIfInBounds_toArray, List.set_cons_zero, List.set_cons_succ])
                refine wpAnyH_take (i := 8) (v := ?_) rfl (by kernel_rfl) (by kernel_rfl) (by kernel_rfl) (fun _ _ _ h => h) (Or.inl ⟨by rfl, ?_⟩) (by assumption) ?_
                rotate_left
                · intro w hSw; (try dsimp only at hSw); go_simp; (try with_reducible rfl)
                (try simp only [Act.put, List.getElem_toArray, List.getElem_cons_zero, List.getElem_cons_succ, List.setIfInBounds_toArray, List.set_cons_zero, List.set_cons_succ])
                refine wpAnyH_take (i := 9) (v := ?_) rfl (by kernel_rfl) (by kernel_rfl) (by kernel_rfl) (fun _ _ _ h => h) (Or.inl ⟨by rfl, ?_⟩) (by assumption) ?_
                rotate_left
                · intro w hSw; (try dsimp only at hSw); go_simp; (try with_reducible rfl)
                (try simp only [Act.put, List.getElem_toArray, List.getElem_cons_zero, List.getElem_cons_succ, List.setIfInBounds_toArray, List.set_cons_zero, List.set_cons_succ])
                clear hHeld
                refine wpAnyH_ready (rs := [11]) (by kernel_rfl) (by simp) ?_
                refine AllReadyH.cons rfl (fun K hK => ?_) ?_
                · have zz0 := Z23.cell 0
                  have zz1 := Z23.cell 1
                  have zz2 := Z23.cell 2
                  have zf0 := Z23.frozen 0
                  have zf1 := Z23.frozen 1
                  have zf2 := Z23.frozen 2
                  go_simp
                  have HB24 := (((HB23.setCell (p := ⟨w_18.heap.size, 0, none⟩) hq19 (.int .i64 rW)).setCell (p := ⟨w_18.heap.size, 1, none⟩) hq19 (.int .i64 rH)).setCell (p := ⟨w_18.heap.size, 2, none⟩) hq19 (.slice Ar ys.length cr))
                  have hne24 := row_ne' OF23.1 Z23 (by decide)
                  have OF24 := (((OF23.far (a := ⟨w_18.heap.size, 0, none⟩) hne24 (.int .i64 rW)).far (a := ⟨w_18.heap.size, 1, none⟩) hne24 (.int .i64 rH)).far (a := ⟨w_18.heap.size, 2, none⟩) hne24 (.slice Ar ys.length cr))
                  have Z24 : Blk _ _ _ #[.int .i64 rW, .int .i64 rH, .slice Ar ys.length cr] := Z23.put3t
                  clear zz0 zz1 zz2 zf0 zf1 zf2
                  refine hK.out _ _ (by exact ⟨cells_of HB24 ea00 za0, cells_of HB24 ea01 za0, cells_of HB24 ea02 za0, cells_of HB24 ea10 za1, cells_of HB24 ea11 za1, cells_of HB24 ea12 za1, cells_of HB24 ea20 za2, cells_of HB24 ea21 za2, cells_of HB24 ea22 za2⟩) (fun hHeld => ?_)
                  clear hK K
                  (try simp only [Act.put, List.getElem_toArray, List.getElem_cons_zero, List.getElem_cons_succ, List.setIfInBounds_toArray, List.set_cons_zero, List.set_cons_succ])
                  refine wpAnyH_take (i := 12) (v := ?_) rfl (by kernel_rfl) (by kernel_rfl) (by kernel_rfl) (fun _ _ _ h => h) (Or.inl ⟨by rfl, ?_⟩) (by assumption) ?_
                  rotate_left
                  · intro w hSw; (try dsimp only at hSw); go_simp; (try with_reducible rfl)
                  (try simp only [Act.put, List.getElem_toArray, List.getElem_cons_zero, List.getElem_cons_succ, List.setIfInBounds_toArray, List.set_cons_zero, List.set_cons_succ])
                  clear hHeld
                  refine wpAnyH_done (by kernel_rfl) ?_ _
                  refine NoPanic.normal ?_
                  go_wp2_with fail
                  go_meet
                  exact ⟨w_18.heap.size, Ar, cr, rfl, rfl, hq19, Z24.box, OF24, HB24⟩
                exact AllReadyH.nil
              exact AllReadyH.nil
            exact AllReadyH.nil
          exact AllReadyH.nil
        exact AllReadyH.nil
      exact AllReadyH.nil
    case rest =>
      obtain ⟨q19, A_19, c_19, rfl, rfl, hq19, Bh0, own, hb⟩ := hcut
      obtain ⟨w_19, hw⟩ : ∃ w_19, w_19 = wc := ⟨_, rfl⟩
      subst hw
      have hqq19 := Bh0.1
      replace Ba0 := Ba0.all hb
      replace Ba1 := Ba1.all hb
      replace Ba2 := Ba2.all hb
      replace Bw0 := Bw0.all hb
      replace Bx0 := Bx0.all hb
      replace Bx1 := Bx1.all hb
      replace Bx2 := Bx2.all hb
      replace Bg0 := Bg0.all hb
      replace R0 := R0.all hb hz
      replace R1 := R1.all hb hz
      replace R2 := R2.all hb hz
      replace Or4 := Or4.all hb
      replace Ot5 := Ot5.all hb
      replace Ot6 := Ot6.all hb
      replace Ot7 := Ot7.all hb
      replace Or8 := Or8.all hb
      replace HB := Lib.hid (HB.out.trans (hb.mono hz))
      have hsw_19 : w_18.heap.size ≤ w_19.heap.size := hb.size
      replace hz : w.heap.size ≤ w_19.heap.size := Nat.le_trans hz hsw_19
      clear hb za0 ea00 ea01 ea02 za1 ea10 ea11 ea12 za2 ea20 ea21 ea22 zw0 ew00 ew01 ew02 zx0 ex00 ex01 ex02 zx1 ex10 ex11 ex12 zx2 ex20 ex21 ex22 zg0 eg00 eg01 eg02
      have Or19 := own; clear own
      have Obr19 := Lib.hid Or19.bd
      have za0 := Ba0.1
      have ea00 := Ba0.2 0 _ rfl
      have ea01 := Ba0.2 1 _ rfl
      have ea02 := Ba0.2 2 _ rfl
      have za1 := Ba1.1
      have ea10 := Ba1.2 0 _ rfl
      have ea11 := Ba1.2 1 _ rfl
      have ea12 := Ba1.2 2 _ rfl
      have za2 := Ba2.1
      have ea20 := Ba2.2 0 _ rfl
      have ea21 := Ba2.2 1 _ rfl
      have ea22 := Ba2.2 2 _ rfl
      have zw0 := Bw0.1
      have ew00 := Bw0.2 0 _ rfl
      have ew01 := Bw0.2 1 _ rfl
      have ew02 := Bw0.2 2 _ rfl
      have zx0 := Bx0.1
      have ex00 := Bx0.2 0 _ rfl
      have ex01 := Bx0.2 1 _ rfl
      have ex02 := Bx0.2 2 _ rfl
      have zx1 := Bx1.1
      have ex10 := Bx1.2 0 _ rfl
      have ex11 := Bx1.2 1 _ rfl
      have ex12 := Bx1.2 2 _ rfl
      have zx2 := Bx2.1
      have ex20 := Bx2.2 0 _ rfl
      have ex21 := Bx2.2 1 _ rfl
      have ex22 := Bx2.2 2 _ rfl
      have zg0 := Bg0.1
      have eg00 := Bg0.2 0 _ rfl
      have eg01 := Bg0.2 1 _ rfl
      have eg02 := Bg0.2 2 _ rfl
      have zh0 := Bh0.1
      have eh00 := Bh0.2 0 _ rfl
      have eh01 := Bh0.2 1 _ rfl
      have eh02 := Bh0.2 2 _ rfl
      go_wp2_with fail
      refine (eqChart_same rW rH _ _ _ _ _ _ _ _ ys _ Or19.rd Or4.rd (Nat.le_refl _) (Nat.le_refl _)).mono ?_
      rintro e w_20 ⟨rfl, hb⟩
      replace Ba0 := Ba0.all hb
      replace Ba1 := Ba1.all hb
      replace Ba2 := Ba2.all hb
      replace Bw0 := Bw0.all hb
      replace Bx0 := Bx0.all hb
      replace Bx1 := Bx1.all hb
      replace Bx2 := Bx2.all hb
      replace Bg0 := Bg0.all hb
      replace Bh0 := Bh0.all hb
      replace R0 := R0.all hb hz
      replace R1 := R1.all hb hz
      replace R2 := R2.all hb hz
      replace Or4 := Or4.all hb
      replace Ot5 := Ot5.all hb
      replace Ot6 := Ot6.all hb
      replace Ot7 := Ot7.all hb
      replace Or8 := Or8.all hb
      replace Or19 := Or19.all hb
      have hsw_20 : w_19.heap.size ≤ w_20.heap.size := hb.size
      replace HB := Lib.hid (HB.out.trans (hb.mono hz))
      replace hz : w.heap.size ≤ w_20.heap.size := by omega
      clear hb za0 ea00 ea01 ea02 za1 ea10 ea11 ea12 za2 ea20 ea21 ea22 zw0 ew00 ew01 ew02 zx0 ex00 ex01 ex02 zx1 ex10 ex11 ex12 zx2 ex20 ex21 ex22 zg0 eg00 eg01 eg02 zh0 eh00 eh01 eh02
      have za0 := Ba0.1
      have ea00 := Ba0.2 0 _ rfl
      have ea01 := Ba0.2 1 _ rfl
      have ea02 := Ba0.2 2 _ rfl
      have za1 := Ba1.1
      have ea10 := Ba1.2 0 _ rfl
      have ea11 := Ba1.2 1 _ rfl
      have ea12 := Ba1.2 2 _ rfl
      have za2 := Ba2.1
      have ea20 := Ba2.2 0 _ rfl
      have ea21 := Ba2.2 1 _ rfl
      have ea22 := Ba2.2 2 _ rfl
      have zw0 := Bw0.1
      have ew00 := Bw0.2 0 _ rfl
      have ew01 := Bw0.2 1 _ rfl
      have ew02 := Bw0.2 2 _ rfl
      have zx0 := Bx0.1
      have ex00 := Bx0.2 0 _ rfl
      have ex01 := Bx0.2 1 _ rfl
      have ex02 := Bx0.2 2 _ rfl
      have zx1 := Bx1.1
      have ex10 := Bx1.2 0 _ rfl
      have ex11 := Bx1.2 1 _ rfl
      have ex12 := Bx1.2 2 _ rfl
      have zx2 := Bx2.1
      have ex20 := Bx2.2 0 _ rfl
      have ex21 := Bx2.2 1 _ rfl
      have ex22 := Bx2.2 2 _ rfl
      have zg0 := Bg0.1
      have eg00 := Bg0.2 0 _ rfl
      have eg01 := Bg0.2 1 _ rfl
      have eg02 := Bg0.2 2 _ rfl
      have zh0 := Bh0.1
      have eh00 := Bh0.2 0 _ rfl
      have eh01 := Bh0.2 1 _ rfl
      have eh02 := Bh0.2 2 _ rfl
      go_wp2_with fail
      refine (heldChart_any rW rH _ _ _ _ _ _ Or8.rd (Nat.le_refl _) hl (by omega) (by omega)).mono ?_
      rintro e w_21 ⟨rfl, hb⟩
      replace Ba0 := Ba0.all hb
      replace Ba1 := Ba1.all hb
      replace Ba2 := Ba2.all hb
      replace Bw0 := Bw0.all hb
      replace Bx0 := Bx0.all hb
      replace Bx1 := Bx1.all hb
      replace Bx2 := Bx2.all hb
      replace Bg0 := Bg0.all hb
      replace Bh0 := Bh0.all hb
      replace R0 := R0.all hb hz
      replace R1 := R1.all hb hz
      replace R2 := R2.all hb hz
      replace Or4 := Or4.all hb
      replace Ot5 := Ot5.all hb
      replace Ot6 := Ot6.all hb
      replace Ot7 := Ot7.all hb
      replace Or8 := Or8.all hb
      replace Or19 := Or19.all hb
      have hsw_21 : w_20.heap.size ≤ w_21.heap.size := hb.size
      replace HB := Lib.hid (HB.out.trans (hb.mono hz))
      replace hz : w.heap.size ≤ w_21.heap.size := by omega
      clear hb za0 ea00 ea01 ea02 za1 ea10 ea11 ea12 za2 ea20 ea21 ea22 zw0 ew00 ew01 ew02 zx0 ex00 ex01 ex02 zx1 ex10 ex11 ex12 zx2 ex20 ex21 ex22 zg0 eg00 eg01 eg02 zh0 eh00 eh01 eh02
      go_wp2_with fail
      go_ret
      exact ⟨rfl, HB.out⟩

set_option maxRecDepth 100000 in
set_option maxHeartbeats 400000 in
theorem big (w : World) (W0 H0 : Int) (A0 : Option Addr) (n0 c0 : Nat) (_xs0 : List Int) (W1 H1 : Int) (A1 : Option Addr) (n1 c1 : Nat) (_xs1 : List Int) (W2 H2 : Int) (A2 : Option Addr) (n2 c2 : Nat) (_xs2 : List Int) (hlt0 : n0 ≤ 9223372036854775807) (_hlt1 : n1 ≤ 9223372036854775807) (_hlt2 : n2 ≤ 9223372036854775807) (hn : ¬ n0 ≤ 1048576) : Calls Try.prog 10 #[chartV W0 H0 (.slice A0 n0 c0), chartV W1 H1 (.slice A1 n1 c1), chartV W2 H2 (.slice A2 n2 c2)] w fun e w' => e = .returned (.bool true) ∧ Below w.heap.size w w' := by
  have HB := Lib.hid ((((Below.refl w.heap.size w).alloc (Nat.le_refl _) (.cells #[.int .i64 W0, .int .i64 H0, .slice A0 n0 c0] 24)).alloc (by simp) (.cells #[.int .i64 W1, .int .i64 H1, .slice A1 n1 c1] 24)).alloc (by simp; omega) (.cells #[.int .i64 W2, .int .i64 H2, .slice A2 n2 c2] 24))
  go_enter Try.func10, Try.ntmps10
  go_wp2_with fail
  refine (szChart_big W0 H0 A0 n0 c0 _ hn hlt0).mono ?_
  rintro e w1 ⟨rfl, hb⟩
  replace HB := Lib.hid (HB.out.trans (hb.mono (by simp; omega)))
  clear hb
  go_wp2_with fail
  go_ret
  exact ⟨rfl, HB.out⟩
set_option maxRecDepth 100000 in
set_option maxHeartbeats 400000 in
theorem bigB (w : World) (W0 H0 : Int) (A0 : Option Addr) (n0 c0 : Nat) (_xs0 : List Int) (W1 H1 : Int) (A1 : Option Addr) (n1 c1 : Nat) (_xs1 : List Int) (W2 H2 : Int) (A2 : Option Addr) (n2 c2 : Nat) (_xs2 : List Int) (_hlt0 : n0 ≤ 9223372036854775807) (hlt1 : n1 ≤ 9223372036854775807) (_hlt2 : n2 ≤ 9223372036854775807) (hn : n0 ≤ 1048576) (hn2 : ¬ n0 + n1 ≤ 1048576) : Calls Try.prog 10 #[chartV W0 H0 (.slice A0 n0 c0), chartV W1 H1 (.slice A1 n1 c1), chartV W2 H2 (.slice A2 n2 c2)] w fun e w' => e = .returned (.bool true) ∧ Below w.heap.size w w' := by
  have HB := Lib.hid ((((Below.refl w.heap.size w).alloc (Nat.le_refl _) (.cells #[.int .i64 W0, .int .i64 H0, .slice A0 n0 c0] 24)).alloc (by simp) (.cells #[.int .i64 W1, .int .i64 H1, .slice A1 n1 c1] 24)).alloc (by simp; omega) (.cells #[.int .i64 W2, .int .i64 H2, .slice A2 n2 c2] 24))
  have B1 := ((Blk.new (w.alloc (.cells #[.int .i64 W0, .int .i64 H0, .slice A0 n0 c0] 24)) #[.int .i64 W1, .int .i64 H1, .slice A1 n1 c1] 24).at_ (q := w.heap.size + 1) (by simp)).alloc (.cells #[.int .i64 W2, .int .i64 H2, .slice A2 n2 c2] 24)
  go_enter Try.func10, Try.ntmps10
  go_wp2_with fail
  refine (szChart_ok W0 H0 A0 n0 c0 _ hn).mono ?_
  rintro e w1 ⟨rfl, hb⟩
  replace HB := Lib.hid (HB.out.trans (hb.mono (by simp; omega)))
  replace B1 := B1.all hb
  clear hb
  have e0 := B1.cell 0
  have e1 := B1.cell 1
  have e2 := B1.cell 2
  go_wp2_with fail
  refine (szChart_over W1 H1 A1 n1 c1 _ _ (by omega) (by omega) (by omega) hlt1).mono ?_
  rintro e w2 ⟨rfl, hb⟩
  replace HB := Lib.hid (HB.out.trans (hb.mono HB.out.size))
  clear hb e0 e1 e2
  go_wp2_with fail
  go_ret
  exact ⟨rfl, HB.out⟩
set_option maxRecDepth 100000 in
set_option maxHeartbeats 400000 in
theorem bigC (w : World) (W0 H0 : Int) (A0 : Option Addr) (n0 c0 : Nat) (_xs0 : List Int) (W1 H1 : Int) (A1 : Option Addr) (n1 c1 : Nat) (_xs1 : List Int) (W2 H2 : Int) (A2 : Option Addr) (n2 c2 : Nat) (_xs2 : List Int) (_hlt0 : n0 ≤ 9223372036854775807) (_hlt1 : n1 ≤ 9223372036854775807) (hlt2 : n2 ≤ 9223372036854775807) (hn : n0 ≤ 1048576) (hn2 : n0 + n1 ≤ 1048576) (hn3 : ¬ n0 + n1 + n2 ≤ 1048576) : Calls Try.prog 10 #[chartV W0 H0 (.slice A0 n0 c0), chartV W1 H1 (.slice A1 n1 c1), chartV W2 H2 (.slice A2 n2 c2)] w fun e w' => e = .returned (.bool true) ∧ Below w.heap.size w w' := by
  have HB := Lib.hid ((((Below.refl w.heap.size w).alloc (Nat.le_refl _) (.cells #[.int .i64 W0, .int .i64 H0, .slice A0 n0 c0] 24)).alloc (by simp) (.cells #[.int .i64 W1, .int .i64 H1, .slice A1 n1 c1] 24)).alloc (by simp; omega) (.cells #[.int .i64 W2, .int .i64 H2, .slice A2 n2 c2] 24))
  have B1 := ((Blk.new (w.alloc (.cells #[.int .i64 W0, .int .i64 H0, .slice A0 n0 c0] 24)) #[.int .i64 W1, .int .i64 H1, .slice A1 n1 c1] 24).at_ (q := w.heap.size + 1) (by simp)).alloc (.cells #[.int .i64 W2, .int .i64 H2, .slice A2 n2 c2] 24)
  have B2 := (Blk.new ((w.alloc (.cells #[.int .i64 W0, .int .i64 H0, .slice A0 n0 c0] 24)).alloc (.cells #[.int .i64 W1, .int .i64 H1, .slice A1 n1 c1] 24)) #[.int .i64 W2, .int .i64 H2, .slice A2 n2 c2] 24).at_ (q := w.heap.size + 1 + 1) (by simp)
  go_enter Try.func10, Try.ntmps10
  go_wp2_with fail
  refine (szChart_ok W0 H0 A0 n0 c0 _ hn).mono ?_
  rintro e w1 ⟨rfl, hb⟩
  replace HB := Lib.hid (HB.out.trans (hb.mono (by simp; omega)))
  replace B1 := B1.all hb
  replace B2 := B2.all hb
  clear hb
  have e0 := B1.cell 0
  have e1 := B1.cell 1
  have e2 := B1.cell 2
  go_wp2_with fail
  refine (szChart_rest W1 H1 A1 n1 c1 _ _ (by omega) (by omega)).mono ?_
  rintro e w2 ⟨rfl, hb⟩
  replace HB := Lib.hid (HB.out.trans (hb.mono HB.out.size))
  replace B2 := B2.all hb
  clear hb e0 e1 e2
  have e0 := B2.cell 0
  have e1 := B2.cell 1
  have e2 := B2.cell 2
  go_wp2_with fail
  refine (szChart_over W2 H2 A2 n2 c2 _ _ (by omega) (by omega) (by omega) hlt2).mono ?_
  rintro e w3 ⟨rfl, hb⟩
  replace HB := Lib.hid (HB.out.trans (hb.mono HB.out.size))
  clear hb
  go_wp2_with fail
  go_ret
  exact ⟨rfl, HB.out⟩
theorem walk (w : World) (W0 H0 : Int) (A0 : Option Addr) (n0 c0 : Nat) (xs0 : List Int) (_wW0 : I64 W0) (_wH0 : I64 H0) (h0 : Rd w w.heap.size A0 n0 c0 xs0) (W1 H1 : Int) (A1 : Option Addr) (n1 c1 : Nat) (xs1 : List Int) (_wW1 : I64 W1) (_wH1 : I64 H1) (h1 : Rd w w.heap.size A1 n1 c1 xs1) (W2 H2 : Int) (A2 : Option Addr) (n2 c2 : Nat) (xs2 : List Int) (_wW2 : I64 W2) (_wH2 : I64 H2) (h2 : Rd w w.heap.size A2 n2 c2 xs2) : Calls Try.prog 10 #[chartV W0 H0 (.slice A0 n0 c0), chartV W1 H1 (.slice A1 n1 c1), chartV W2 H2 (.slice A2 n2 c2)] w fun e w' => e = .returned (.bool true) ∧ Below w.heap.size w w' := by
  by_cases hn0 : n0 ≤ 1048576
  · by_cases hm : n0 + n1 ≤ 1048576
    · by_cases hn : n0 + n1 + n2 ≤ 1048576
      · exact core w W0 H0 A0 n0 c0 xs0 W1 H1 A1 n1 c1 xs1 W2 H2 A2 n2 c2 xs2 h0 h1 h2 hn0 (by omega) (by omega) hn _ _ _ _ mgX_len (Lib.hid (fun w A0 c0 A1 c1 A2 c2 h0 h1 h2 => specMergePhotos_any W0 H0 A0 _ c0 _ xs0 W1 H1 A1 _ c1 _ xs1 W2 H2 A2 _ c2 _ xs2 w h0 (Nat.le_refl _) h1 (Nat.le_refl _) h2 (Nat.le_refl _))) (Lib.hid (fun w A0 c0 A1 c1 A2 c2 h0 h1 h2 => implMergePhotos_any W0 H0 A0 _ c0 _ xs0 W1 H1 A1 _ c1 _ xs1 W2 H2 A2 _ c2 _ xs2 w h0 (Nat.le_refl _) h1 (Nat.le_refl _) h2 (Nat.le_refl _)))
      · exact bigC w W0 H0 A0 n0 c0 xs0 W1 H1 A1 n1 c1 xs1 W2 H2 A2 n2 c2 xs2 h0.len_lt h1.len_lt h2.len_lt hn0 hm hn
    · exact bigB w W0 H0 A0 n0 c0 xs0 W1 H1 A1 n1 c1 xs1 W2 H2 A2 n2 c2 xs2 h0.len_lt h1.len_lt h2.len_lt hn0 hm
  · exact big w W0 H0 A0 n0 c0 xs0 W1 H1 A1 n1 c1 xs1 W2 H2 A2 n2 c2 xs2 h0.len_lt h1.len_lt h2.len_lt hn0
end Go.Proofs.Ytiglbidfjcjhgaa.mergePhotos
