/- The walk of the law FnExactSwappedColors. No condition. -/
import Derived.Test.YtiglbidfjcjhgaaTwo
import Derived.Test.YtiglbidfjcjhgaaPairHelp
import Derived.Test.YtiglbidfjcjhgaaSwapS
import Derived.Deep.DeepCutAuto
namespace Go.Proofs.Ytiglbidfjcjhgaa.swappedColors
open Go.RowKit

set_option maxRecDepth 100000 in
set_option maxHeartbeats 8000000 in
theorem core (w : World) (W0 H0 : Int) (A0 : Option Addr) (n0 c0 : Nat) (xs0 : List Int) (W1 H1 : Int) (A1 : Option Addr) (n1 c1 : Nat) (xs1 : List Int) (h0 : Rd w w.heap.size A0 n0 c0 xs0) (h1 : Rd w w.heap.size A1 n1 c1 xs1) (hn0 : n0 ≤ 1048576) (hn1 : n1 ≤ 1048576) (hn : n0 + n1 ≤ 1048576) (ys : List PairR) (ok : Bool) (hl : ys.length ≤ 1048576) (hspec : Hid (∀ (w : World) (A0 : Option Addr) (c0 : Nat) (A1 : Option Addr) (c1 : Nat), Rd w w.heap.size A0 xs0.length c0 xs0 → Rd w w.heap.size A1 xs1.length c1 xs1 → Calls Try.prog 31 #[chartV W0 H0 (.slice A0 xs0.length c0), chartV W1 H1 (.slice A1 xs1.length c1)] w (OutF pairF w ys ok))) (himpl : Hid (∀ (w : World) (A0 : Option Addr) (c0 : Nat) (A1 : Option Addr) (c1 : Nat), Rd w w.heap.size A0 xs0.length c0 xs0 → Rd w w.heap.size A1 xs1.length c1 xs1 → Calls Try.prog 32 #[chartV W0 H0 (.slice A0 xs0.length c0), chartV W1 H1 (.slice A1 xs1.length c1)] w (OutF pairF w ys ok))) :
    Calls Try.prog 8 #[chartV W0 H0 (.slice A0 n0 c0), chartV W1 H1 (.slice A1 n1 c1)] w fun e w' => e = .returned (.bool true) ∧ Below w.heap.size w w' := by
  have HB := Lib.hid (Below.refl w.heap.size w)
  have hz : w.heap.size ≤ w.heap.size := Nat.le_refl _
  have R0 := h0; have hl0 := h0.len; subst hl0; clear h0
  have R1 := h1; have hl1 := h1.len; subst hl1; clear h1
  go_enter Try.func8, Try.ntmps8
  go_wp2_with fail
  refine (szChart_ok W0 H0 A0 _ c0 _ hn0).mono ?_
  rintro e w_1 ⟨rfl, hb⟩
  have hb0 := hb
  replace hb := (((Below.refl w.heap.size w).alloc (by first | (simp; done) | (simp; omega)) _).alloc (by first | (simp; done) | (simp; omega)) _).trans (hb0.mono (by first | omega | (simp; done) | (simp; omega)))
  replace R0 := R0.all hb hz
  replace R1 := R1.all hb hz
  have Ba0 := ((Box.new w #[.int .i64 W0, .int .i64 H0, .slice A0 xs0.length c0] 24).all ((Below.refl _ _).alloc (Nat.le_refl _) _)).all hb0
  have Ba1 := (Box.new (w.alloc (.cells #[.int .i64 W0, .int .i64 H0, .slice A0 xs0.length c0] 24)) #[.int .i64 W1, .int .i64 H1, .slice A1 xs1.length c1] 24).all hb0
  rw [show (w.alloc (.cells #[.int .i64 W0, .int .i64 H0, .slice A0 xs0.length c0] 24)).heap.size = w.heap.size + 1 by simp] at Ba1
  have hsw_1 : w.heap.size + 2 ≤ w_1.heap.size := by have := hb0.size; simp at this; omega
  clear hb0
  replace HB := Lib.hid (HB.out.trans (hb.mono hz))
  replace hz : w.heap.size ≤ w_1.heap.size := by omega
  clear hb
  have za0 := Ba0.1
  have ea00 := Ba0.2 0 _ rfl
  have ea01 := Ba0.2 1 _ rfl
  have ea02 := Ba0.2 2 _ rfl
  have za1 := Ba1.1
  have ea10 := Ba1.2 0 _ rfl
  have ea11 := Ba1.2 1 _ rfl
  have ea12 := Ba1.2 2 _ rfl
  go_wp2_with fail
  refine (szChart_rest W1 H1 A1 _ c1 _ _ (by omega) (by omega)).mono ?_
  rintro e w_2 ⟨rfl, hb⟩
  replace Ba0 := Ba0.all hb
  replace Ba1 := Ba1.all hb
  replace R0 := R0.all hb hz
  replace R1 := R1.all hb hz
  have hsw_2 : w_1.heap.size ≤ w_2.heap.size := hb.size
  replace HB := Lib.hid (HB.out.trans (hb.mono hz))
  replace hz : w.heap.size ≤ w_2.heap.size := by omega
  clear hb za0 ea00 ea01 ea02 za1 ea10 ea11 ea12
  have za0 := Ba0.1
  have ea00 := Ba0.2 0 _ rfl
  have ea01 := Ba0.2 1 _ rfl
  have ea02 := Ba0.2 2 _ rfl
  have za1 := Ba1.1
  have ea10 := Ba1.2 0 _ rfl
  have ea11 := Ba1.2 1 _ rfl
  have ea12 := Ba1.2 2 _ rfl
  go_wp2_with fail
  go_cut [6, 7] (fun s6 s7 wx => ∃ (A : Option Addr) (c : Nat), s6 = .slice A ys.length c ∧ s7 = .bool ok ∧ OwnF pairF wx w_2.heap.size (.slice A ys.length c) ys ∧ Below w_2.heap.size w_2 wx)
  case first =>
    refine wp_region_noPanic ?_
    refine wp_region_held_drew (S := (fun w' => w'.cell? ⟨w.heap.size, 0, none⟩ = some (.int .i64 W0) ∧ w'.cell? ⟨w.heap.size, 1, none⟩ = some (.int .i64 H0) ∧ w'.cell? ⟨w.heap.size, 2, none⟩ = some (.slice A0 xs0.length c0) ∧ w'.cell? ⟨w.heap.size + 1, 0, none⟩ = some (.int .i64 W1) ∧ w'.cell? ⟨w.heap.size + 1, 1, none⟩ = some (.int .i64 H1) ∧ w'.cell? ⟨w.heap.size + 1, 2, none⟩ = some (.slice A1 xs1.length c1))) (by kernel_rfl) (by go_keep) (fun hHeld => ?_)
    refine wpAnyH_take (i := 0) (v := ?_) rfl (by kernel_rfl) (by kernel_rfl) (by kernel_rfl) (fun _ _ _ h => h) (Or.inl ⟨by rfl, ?_⟩) (by assumption) ?_
    rotate_left
    · intro w hSw; (try dsimp only at hSw); go_simp; (try with_reducible rfl)
    (try simp only [Act.put, List.getElem_toArray, List.getElem_cons_zero, List.setIfInBounds_toArray, List.set_cons_zero, List.set_cons_succ])
    refine wpAnyH_take (i := 2) (v := ?_) rfl (by kernel_rfl) (by kernel_rfl) (by kernel_rfl) (fun _ _ _ h => h) (Or.inl ⟨by rfl, ?_⟩) (by assumption) ?_
    rotate_left
    · intro w hSw; (try dsimp only at hSw); go_simp; (try with_reducible rfl)
    (try simp only [Act.put, List.getElem_toArray, List.getElem_cons_zero, List.getElem_cons_succ, List.setIfInBounds_toArray, List.set_cons_zero, List.set_cons_succ])
    have HB0 := belowD (Below.refl w_2.heap.size w_2)
    clear hHeld
    refine wpAnyH_ready (rs := [1]) (by kernel_rfl) (by simp) ?_
    refine AllReadyH.cons rfl (fun K hK => ?_) ?_
    · go_simp
      refine (toChart_any W0 H0 A0 _ c0 w.heap.size xs0 _ (R0.below HB0 hz) (Nat.le_trans hz HB0.size) hn0).mono ?_
      rintro e wq1 ⟨gd0, rfl, own, hb⟩
      have HB1 := HB0.trans (hb.mono HB0.size)
      have O1_0 := own.mono HB0.size
      clear own hb
      refine hK.out _ _ (by exact ⟨cells_of HB1 ea00 za0, cells_of HB1 ea01 za0, cells_of HB1 ea02 za0, cells_of HB1 ea10 za1, cells_of HB1 ea11 za1, cells_of HB1 ea12 za1⟩) (fun hHeld => ?_)
      clear hK K hHeld
      (try simp only [Act.put, List.getElem_toArray, List.getElem_cons_zero, List.getElem_cons_succ, List.setIfInBounds_toArray, List.set_cons_zero, List.set_cons_succ])
      refine wpAnyH_ready (rs := [3]) (by kernel_rfl) (by simp) ?_
      refine AllReadyH.cons rfl (fun K hK => ?_) ?_
      · go_simp
        refine (toChart_any W1 H1 A1 _ c1 w.heap.size xs1 _ (R1.below HB1 hz) (Nat.le_trans hz HB1.size) hn1).mono ?_
        rintro e wq2 ⟨gd1, rfl, own, hb⟩
        have HB2 := HB1.trans (hb.mono HB1.size)
        have O2_0 := O1_0.all hb
        have O2_1 := own.mono HB1.size
        clear own hb
        refine hK.out _ _ (by exact ⟨cells_of HB2 ea00 za0, cells_of HB2 ea01 za0, cells_of HB2 ea02 za0, cells_of HB2 ea10 za1, cells_of HB2 ea11 za1, cells_of HB2 ea12 za1⟩) (fun hHeld => ?_)
        clear hK K hHeld
        (try simp only [Act.put, List.getElem_toArray, List.getElem_cons_zero, List.getElem_cons_succ, List.setIfInBounds_toArray, List.set_cons_zero, List.set_cons_succ])
        refine wpAnyH_ready (rs := [4]) (by kernel_rfl) (by simp) ?_
        refine AllReadyH.cons rfl (fun K hK => ?_) ?_
        · go_simp
          refine (hspec.out _ _ _ _ _ O2_0.rd O2_1.rd).mono ?_
          rintro e wq3 ⟨Ar, cr, rfl, own, hb⟩
          have HB3 := HB2.trans (hb.mono HB2.size)
          have OF3 := own.mono HB2.size
          clear hb
          refine hK.out _ _ (by exact ⟨cells_of HB3 ea00 za0, cells_of HB3 ea01 za0, cells_of HB3 ea02 za0, cells_of HB3 ea10 za1, cells_of HB3 ea11 za1, cells_of HB3 ea12 za1⟩) (fun hHeld => ?_)
          clear hK K
          (try simp only [Act.put, List.getElem_toArray, List.getElem_cons_zero, List.getElem_cons_succ, List.setIfInBounds_toArray, List.set_cons_zero, List.set_cons_succ])
          refine wpAnyH_take (i := 5) (v := ?_) rfl (by kernel_rfl) (by kernel_rfl) (by kernel_rfl) (fun _ _ _ h => h) (Or.inl ⟨by rfl, ?_⟩) (by assumption) ?_
          rotate_left
          · intro w hSw; (try dsimp only at hSw); go_simp; (try with_reducible rfl)
          (try simp only [Act.put, List.getElem_toArray, List.getElem_cons_zero, List.getElem_cons_succ, List.setIfInBounds_toArray, List.set_cons_zero, List.set_cons_succ])
          refine wpAnyH_take (i := 6) (v := ?_) rfl (by kernel_rfl) (by kernel_rfl) (by kernel_rfl) (fun _ _ _ h => h) (Or.inl ⟨by rfl, ?_⟩) (by assumption) ?_
          rotate_left
          · intro w hSw; (try dsimp only at hSw); go_simp; (try with_reducible rfl)
          (try simp only [Act.put, List.getElem_toArray, List.getElem_cons_zero, List.getElem_cons_succ, List.setIfInBounds_toArray, List.set_cons_zero, List.set_cons_succ])
          refine wpAnyH_take (i := 7) (v := ?_) rfl (by kernel_rfl) (by kernel_rfl) (by kernel_rfl) (fun _ _ _ h => h) (Or.inl ⟨by rfl, ?_⟩) (by assumption) ?_
          rotate_left
          · intro w hSw; (try dsimp only at hSw); go_simp; (try with_reducible rfl)
          (try simp only [Act.put, List.getElem_toArray, List.getElem_cons_zero, List.getElem_cons_succ, List.setIfInBounds_toArray, List.set_cons_zero, List.set_cons_succ])
          refine wpAnyH_take (i := 8) (v := ?_) rfl (by kernel_rfl) (by kernel_rfl) (by kernel_rfl) (fun _ _ _ h => h) (Or.inl ⟨by rfl, ?_⟩) (by assumption) ?_
          rotate_left
          · intro w hSw; (try dsimp only at hSw); go_simp; (try with_reducible rfl)
          (try simp only [Act.put, List.getElem_toArray, List.getElem_cons_zero, List.getElem_cons_succ, List.setIfInBounds_toArray, List.set_cons_zero, List.set_cons_succ])
          refine wpAnyH_take (i := 9) (v := ?_) rfl (by kernel_rfl) (by kernel_rfl) (by kernel_rfl) (fun _ _ _ h => h) (Or.inl ⟨by rfl, ?_⟩) (by assumption) ?_
          rotate_left
          · intro w hSw; (try dsimp only at hSw); go_simp; (try with_reducible rfl)
          (try simp only [Act.put, List.getElem_toArray, List.getElem_cons_zero, List.getElem_cons_succ, List.setIfInBounds_toArray, List.set_cons_zero, List.set_cons_succ])
          clear hHeld
          refine wpAnyH_done (by kernel_rfl) ?_ _
          refine NoPanic.normal ?_
          go_wp2_with fail
          go_meet
          exact ⟨_, _, rfl, rfl, OF3, HB3⟩
        exact AllReadyH.nil
      exact AllReadyH.nil
    exact AllReadyH.nil
  case rest =>
    obtain ⟨A_3, c_3, rfl, rfl, own, hb⟩ := hcut
    obtain ⟨w_3, hw⟩ : ∃ w_3, w_3 = wc := ⟨_, rfl⟩
    subst hw
    replace Ba0 := Ba0.all hb
    replace Ba1 := Ba1.all hb
    replace R0 := R0.all hb hz
    replace R1 := R1.all hb hz
    replace HB := Lib.hid (HB.out.trans (hb.mono hz))
    have hsw_3 : w_2.heap.size ≤ w_3.heap.size := hb.size
    replace hz : w.heap.size ≤ w_3.heap.size := Nat.le_trans hz hsw_3
    clear hb za0 ea00 ea01 ea02 za1 ea10 ea11 ea12
    have Or3 := own; clear own
    have Obr3 := Lib.hid Or3.bd
    have za0 := Ba0.1
    have ea00 := Ba0.2 0 _ rfl
    have ea01 := Ba0.2 1 _ rfl
    have ea02 := Ba0.2 2 _ rfl
    have za1 := Ba1.1
    have ea10 := Ba1.2 0 _ rfl
    have ea11 := Ba1.2 1 _ rfl
    have ea12 := Ba1.2 2 _ rfl
    go_wp2_with fail
    refine (toChart_any W0 H0 A0 _ c0 _ xs0 _ R0 (by first | omega | (simp; done) | (simp; omega)) hn0).mono ?_
    rintro e w_4 ⟨g4, rfl, own, hb⟩
    replace Ba0 := Ba0.all hb
    replace Ba1 := Ba1.all hb
    replace R0 := R0.all hb hz
    replace R1 := R1.all hb hz
    replace Or3 := Or3.all hb
    have hsw_4 : w_3.heap.size ≤ w_4.heap.size := hb.size
    replace HB := Lib.hid (HB.out.trans (hb.mono hz))
    replace hz : w.heap.size ≤ w_4.heap.size := by omega
    clear hb za0 ea00 ea01 ea02 za1 ea10 ea11 ea12
    have Ot4 := own; clear own
    have Obt4 := Lib.hid Ot4.bd
    have za0 := Ba0.1
    have ea00 := Ba0.2 0 _ rfl
    have ea01 := Ba0.2 1 _ rfl
    have ea02 := Ba0.2 2 _ rfl
    have za1 := Ba1.1
    have ea10 := Ba1.2 0 _ rfl
    have ea11 := Ba1.2 1 _ rfl
    have ea12 := Ba1.2 2 _ rfl
    go_wp2_with fail
    refine (toChart_any W1 H1 A1 _ c1 _ xs1 _ (R1.alloc (by first | omega | (simp; done) | (simp; omega)) _) (by first | omega | (simp; done) | (simp; omega)) hn1).mono ?_
    rintro e w_5 ⟨g5, rfl, own, hb⟩
    have hb0 := hb
    replace hb := ((Below.refl w_4.heap.size w_4).alloc (by first | (simp; done) | (simp; omega)) _).trans (hb0.mono (by first | omega | (simp; done) | (simp; omega)))
    replace Ba0 := Ba0.all hb
    replace Ba1 := Ba1.all hb
    replace R0 := R0.all hb hz
    replace R1 := R1.all hb hz
    replace Or3 := Or3.all hb
    replace Ot4 := Ot4.all hb
    have Bx0 := (Box.new w_4 #[.int .i64 W0, .int .i64 H0, .slice (some ⟨g4, 0, none⟩) xs0.length xs0.length] 28).all hb0
    have hsw_5 : w_4.heap.size + 1 ≤ w_5.heap.size := by have := hb0.size; simp at this; omega
    replace own := own.mono (show w_4.heap.size + 1 ≤ _ by simp)
    clear hb0
    replace HB := Lib.hid (HB.out.trans (hb.mono hz))
    replace hz : w.heap.size ≤ w_5.heap.size := by omega
    clear hb za0 ea00 ea01 ea02 za1 ea10 ea11 ea12
    have Ot5 := own; clear own
    have Obt5 := Lib.hid Ot5.bd
    have za0 := Ba0.1
    have ea00 := Ba0.2 0 _ rfl
    have ea01 := Ba0.2 1 _ rfl
    have ea02 := Ba0.2 2 _ rfl
    have za1 := Ba1.1
    have ea10 := Ba1.2 0 _ rfl
    have ea11 := Ba1.2 1 _ rfl
    have ea12 := Ba1.2 2 _ rfl
    have zx0 := Bx0.1
    have ex00 := Bx0.2 0 _ rfl
    have ex01 := Bx0.2 1 _ rfl
    have ex02 := Bx0.2 2 _ rfl
    go_wp2_with fail
    refine (himpl.out _ (some ⟨g4, 0, none⟩) xs0.length (some ⟨g5, 0, none⟩) xs1.length (Ot4.alloc _).rd (Ot5.alloc _).rd).mono ?_
    rintro e w_6 ⟨A_6, c_6, rfl, own, hb⟩
    have hb0 := hb
    replace hb := ((Below.refl w_5.heap.size w_5).alloc (by first | (simp; done) | (simp; omega)) _).trans (hb0.mono (by first | omega | (simp; done) | (simp; omega)))
    replace Ba0 := Ba0.all hb
    replace Ba1 := Ba1.all hb
    replace Bx0 := Bx0.all hb
    replace R0 := R0.all hb hz
    replace R1 := R1.all hb hz
    replace Or3 := Or3.all hb
    replace Ot4 := Ot4.all hb
    replace Ot5 := Ot5.all hb
    have Bx1 := (Box.new w_5 #[.int .i64 W1, .int .i64 H1, .slice (some ⟨g5, 0, none⟩) xs1.length xs1.length] 28).all hb0
    have hsw_6 : w_5.heap.size + 1 ≤ w_6.heap.size := by have := hb0.size; simp at this; omega
    replace own := own.mono (show w_5.heap.size + 1 ≤ _ by simp)
    clear hb0
    replace HB := Lib.hid (HB.out.trans (hb.mono hz))
    replace hz : w.heap.size ≤ w_6.heap.size := by omega
    clear hb za0 ea00 ea01 ea02 za1 ea10 ea11 ea12 zx0 ex00 ex01 ex02
    have Or6 := own; clear own
    have Obr6 := Lib.hid Or6.bd
    have za0 := Ba0.1
    have ea00 := Ba0.2 0 _ rfl
    have ea01 := Ba0.2 1 _ rfl
    have ea02 := Ba0.2 2 _ rfl
    have za1 := Ba1.1
    have ea10 := Ba1.2 0 _ rfl
    have ea11 := Ba1.2 1 _ rfl
    have ea12 := Ba1.2 2 _ rfl
    have zx0 := Bx0.1
    have ex00 := Bx0.2 0 _ rfl
    have ex01 := Bx0.2 1 _ rfl
    have ex02 := Bx0.2 2 _ rfl
    have zx1 := Bx1.1
    have ex10 := Bx1.2 0 _ rfl
    have ex11 := Bx1.2 1 _ rfl
    have ex12 := Bx1.2 2 _ rfl
    go_wp2_with fail
    refine (eqPS_same _ _ _ _ _ _ _ _ ys _ Or6.rd Or3.rd (Nat.le_refl _) (Nat.le_refl _)).mono ?_
    rintro e w_7 ⟨rfl, hb⟩
    replace Ba0 := Ba0.all hb
    replace Ba1 := Ba1.all hb
    replace Bx0 := Bx0.all hb
    replace Bx1 := Bx1.all hb
    replace R0 := R0.all hb hz
    replace R1 := R1.all hb hz
    replace Or3 := Or3.all hb
    replace Ot4 := Ot4.all hb
    replace Ot5 := Ot5.all hb
    replace Or6 := Or6.all hb
    have hsw_7 : w_6.heap.size ≤ w_7.heap.size := hb.size
    replace HB := Lib.hid (HB.out.trans (hb.mono hz))
    replace hz : w.heap.size ≤ w_7.heap.size := by omega
    clear hb za0 ea00 ea01 ea02 za1 ea10 ea11 ea12 zx0 ex00 ex01 ex02 zx1 ex10 ex11 ex12
    have za0 := Ba0.1
    have ea00 := Ba0.2 0 _ rfl
    have ea01 := Ba0.2 1 _ rfl
    have ea02 := Ba0.2 2 _ rfl
    have za1 := Ba1.1
    have ea10 := Ba1.2 0 _ rfl
    have ea11 := Ba1.2 1 _ rfl
    have ea12 := Ba1.2 2 _ rfl
    have zx0 := Bx0.1
    have ex00 := Bx0.2 0 _ rfl
    have ex01 := Bx0.2 1 _ rfl
    have ex02 := Bx0.2 2 _ rfl
    have zx1 := Bx1.1
    have ex10 := Bx1.2 0 _ rfl
    have ex11 := Bx1.2 1 _ rfl
    have ex12 := Bx1.2 2 _ rfl
    go_wp2_with fail
    go_region_held3 (fun w' => w'.cell? ⟨w.heap.size, 0, none⟩ = some (.int .i64 W0) ∧ w'.cell? ⟨w.heap.size, 1, none⟩ = some (.int .i64 H0) ∧ w'.cell? ⟨w.heap.size, 2, none⟩ = some (.slice A0 xs0.length c0) ∧ w'.cell? ⟨w_4.heap.size, 0, none⟩ = some (.int .i64 W0) ∧ w'.cell? ⟨w_4.heap.size, 1, none⟩ = some (.int .i64 H0) ∧ w'.cell? ⟨w_4.heap.size, 2, none⟩ = some (.slice (some ⟨g4, 0, none⟩) xs0.length xs0.length)) (first | exact ⟨ea00, ea01, ea02, ex00, ex01, ex02⟩ | exact ⟨(hbc _ _ (by omega)).trans ea00, (hbc _ _ (by omega)).trans ea01, (hbc _ _ (by omega)).trans ea02, (hbc _ _ (by omega)).trans ex00, (hbc _ _ (by omega)).trans ex01, (hbc _ _ (by omega)).trans ex02⟩ | exact ⟨(hbd _ _ (by omega)).trans ((hbc _ _ (by omega)).trans ea00), (hbd _ _ (by omega)).trans ((hbc _ _ (by omega)).trans ea01), (hbd _ _ (by omega)).trans ((hbc _ _ (by omega)).trans ea02), (hbd _ _ (by omega)).trans ((hbc _ _ (by omega)).trans ex00), (hbd _ _ (by omega)).trans ((hbc _ _ (by omega)).trans ex01), (hbd _ _ (by omega)).trans ((hbc _ _ (by omega)).trans ex02)⟩) (first | (go_at_call 13; refine (toChart_any W0 H0 A0 _ c0 _ xs0 _ R0.drew (by first | omega | (simp; done) | (simp; omega)) hn0).mono ?_; rintro e wa ⟨g2, rfl, hown, hb⟩; have hb6 : Below w_7.heap.size w_7 wa := below_drew hb; have hbc : ∀ b o, b < w_7.heap.size → wa.cell? ⟨b, o, none⟩ = w_7.cell? ⟨b, o, none⟩ := (bcell hb6).1; have hz6 : w_7.heap.size ≤ wa.heap.size := hb6.size; have HS6 := Ot4.rd.all hb6 (Nat.le_refl _)) | (go_at_call 15; refine (eqChart_same W0 H0 _ _ _ _ _ _ _ _ xs0 _ HS6 hown.rd (by omega) (Nat.le_refl _)).mono ?_; rintro e wb ⟨rfl, hb7⟩; have hbd : ∀ b o, b < wa.heap.size → wb.cell? ⟨b, o, none⟩ = wa.cell? ⟨b, o, none⟩ := (bcell hb7).1))
    obtain ⟨w_8, hw⟩ : ∃ w_8, w_8 = wb := ⟨_, rfl⟩
    subst hw
    have hb := hb6.trans (hb7.mono (by omega))
    clear hbd hbc HS6 hown hb6 hb7 hz6
    replace Ba0 := Ba0.all hb
    replace Ba1 := Ba1.all hb
    replace Bx0 := Bx0.all hb
    replace Bx1 := Bx1.all hb
    replace R0 := R0.all hb hz
    replace R1 := R1.all hb hz
    replace Or3 := Or3.all hb
    replace Ot4 := Ot4.all hb
    replace Ot5 := Ot5.all hb
    replace Or6 := Or6.all hb
    replace HB := Lib.hid (HB.out.trans (hb.mono hz))
    have hsw_8 : w_7.heap.size ≤ w_8.heap.size := hb.size
    replace hz : w.heap.size ≤ w_8.heap.size := Nat.le_trans hz hsw_8
    clear hb za0 ea00 ea01 ea02 za1 ea10 ea11 ea12 zx0 ex00 ex01 ex02 zx1 ex10 ex11 ex12
    have za0 := Ba0.1
    have ea00 := Ba0.2 0 _ rfl
    have ea01 := Ba0.2 1 _ rfl
    have ea02 := Ba0.2 2 _ rfl
    have za1 := Ba1.1
    have ea10 := Ba1.2 0 _ rfl
    have ea11 := Ba1.2 1 _ rfl
    have ea12 := Ba1.2 2 _ rfl
    have zx0 := Bx0.1
    have ex00 := Bx0.2 0 _ rfl
    have ex01 := Bx0.2 1 _ rfl
    have ex02 := Bx0.2 2 _ rfl
    have zx1 := Bx1.1
    have ex10 := Bx1.2 0 _ rfl
    have ex11 := Bx1.2 1 _ rfl
    have ex12 := Bx1.2 2 _ rfl
    go_wp2_with fail
    go_region_held3 (fun w' => w'.cell? ⟨w.heap.size + 1, 0, none⟩ = some (.int .i64 W1) ∧ w'.cell? ⟨w.heap.size + 1, 1, none⟩ = some (.int .i64 H1) ∧ w'.cell? ⟨w.heap.size + 1, 2, none⟩ = some (.slice A1 xs1.length c1) ∧ w'.cell? ⟨w_5.heap.size, 0, none⟩ = some (.int .i64 W1) ∧ w'.cell? ⟨w_5.heap.size, 1, none⟩ = some (.int .i64 H1) ∧ w'.cell? ⟨w_5.heap.size, 2, none⟩ = some (.slice (some ⟨g5, 0, none⟩) xs1.length xs1.length)) (first | exact ⟨ea10, ea11, ea12, ex10, ex11, ex12⟩ | exact ⟨(hbc _ _ (by omega)).trans ea10, (hbc _ _ (by omega)).trans ea11, (hbc _ _ (by omega)).trans ea12, (hbc _ _ (by omega)).trans ex10, (hbc _ _ (by omega)).trans ex11, (hbc _ _ (by omega)).trans ex12⟩ | exact ⟨(hbd _ _ (by omega)).trans ((hbc _ _ (by omega)).trans ea10), (hbd _ _ (by omega)).trans ((hbc _ _ (by omega)).trans ea11), (hbd _ _ (by omega)).trans ((hbc _ _ (by omega)).trans ea12), (hbd _ _ (by omega)).trans ((hbc _ _ (by omega)).trans ex10), (hbd _ _ (by omega)).trans ((hbc _ _ (by omega)).trans ex11), (hbd _ _ (by omega)).trans ((hbc _ _ (by omega)).trans ex12)⟩) (first | (go_at_call 13; refine (toChart_any W1 H1 A1 _ c1 _ xs1 _ R1.drew (by first | omega | (simp; done) | (simp; omega)) hn1).mono ?_; rintro e wa ⟨g2, rfl, hown, hb⟩; have hb6 : Below w_8.heap.size w_8 wa := below_drew hb; have hbc : ∀ b o, b < w_8.heap.size → wa.cell? ⟨b, o, none⟩ = w_8.cell? ⟨b, o, none⟩ := (bcell hb6).1; have hz6 : w_8.heap.size ≤ wa.heap.size := hb6.size; have HS6 := Ot5.rd.all hb6 (Nat.le_refl _)) | (go_at_call 15; refine (eqChart_same W1 H1 _ _ _ _ _ _ _ _ xs1 _ HS6 hown.rd (by omega) (Nat.le_refl _)).mono ?_; rintro e wb ⟨rfl, hb7⟩; have hbd : ∀ b o, b < wa.heap.size → wb.cell? ⟨b, o, none⟩ = wa.cell? ⟨b, o, none⟩ := (bcell hb7).1))
    obtain ⟨w_9, hw⟩ : ∃ w_9, w_9 = wb := ⟨_, rfl⟩
    subst hw
    have hb := hb6.trans (hb7.mono (by omega))
    clear hbd hbc HS6 hown hb6 hb7 hz6
    replace Ba0 := Ba0.all hb
    replace Ba1 := Ba1.all hb
    replace Bx0 := Bx0.all hb
    replace Bx1 := Bx1.all hb
    replace R0 := R0.all hb hz
    replace R1 := R1.all hb hz
    replace Or3 := Or3.all hb
    replace Ot4 := Ot4.all hb
    replace Ot5 := Ot5.all hb
    replace Or6 := Or6.all hb
    replace HB := Lib.hid (HB.out.trans (hb.mono hz))
    have hsw_9 : w_8.heap.size ≤ w_9.heap.size := hb.size
    replace hz : w.heap.size ≤ w_9.heap.size := Nat.le_trans hz hsw_9
    clear hb za0 ea00 ea01 ea02 za1 ea10 ea11 ea12 zx0 ex00 ex01 ex02 zx1 ex10 ex11 ex12
    have za0 := Ba0.1
    have ea00 := Ba0.2 0 _ rfl
    have ea01 := Ba0.2 1 _ rfl
    have ea02 := Ba0.2 2 _ rfl
    have za1 := Ba1.1
    have ea10 := Ba1.2 0 _ rfl
    have ea11 := Ba1.2 1 _ rfl
    have ea12 := Ba1.2 2 _ rfl
    have zx0 := Bx0.1
    have ex00 := Bx0.2 0 _ rfl
    have ex01 := Bx0.2 1 _ rfl
    have ex02 := Bx0.2 2 _ rfl
    have zx1 := Bx1.1
    have ex10 := Bx1.2 0 _ rfl
    have ex11 := Bx1.2 1 _ rfl
    have ex12 := Bx1.2 2 _ rfl
    go_wp2_with fail
    refine (markChart_any W0 H0 _ _ _ _ _ Ot4 hn0 (by omega) (by omega)).mono ?_
    rintro e w_10 ⟨rfl, own, hg⟩
    have zb := Ba0.1; replace Ba0 := Ba0.mark hg (fun k hk => by have := Obt4.out k hk; omega); clear zb
    have zb := Ba1.1; replace Ba1 := Ba1.mark hg (fun k hk => by have := Obt4.out k hk; omega); clear zb
    have zb := Bx0.1; replace Bx0 := Bx0.mark hg (fun k hk => by have := Obt4.out k hk; omega); clear zb
    have zb := Bx1.1; replace Bx1 := Bx1.mark hg (fun k hk => by have := Obt4.out k hk; omega); clear zb
    replace R0 := R0.mark hg (fun k hk => by have := Obt4.out k hk; omega) hz
    replace R1 := R1.mark hg (fun k hk => by have := Obt4.out k hk; omega) hz
    replace Or3 := Or3.mark hg (fun k k' hk hk' => by have := Obt4.out k hk; have := Obr3.out k' hk'; omega)
    replace Ot5 := Ot5.mark hg (fun k k' hk hk' => by have := Obt4.out k hk; have := Obt5.out k' hk'; omega)
    replace Or6 := Or6.mark hg (fun k k' hk hk' => by have := Obt4.out k hk; have := Obr6.out k' hk'; omega)
    replace Ot4 := own; clear own
    replace HB := Lib.hid (HB.out.grown hg hz (fun k hk => by have := Obt4.out k hk; omega))
    have hsw_10 : w_9.heap.size ≤ w_10.heap.size := hg.size
    replace hz : w.heap.size ≤ w_10.heap.size := Nat.le_trans hz hsw_10
    clear hg za0 ea00 ea01 ea02 za1 ea10 ea11 ea12 zx0 ex00 ex01 ex02 zx1 ex10 ex11 ex12
    have za0 := Ba0.1
    have ea00 := Ba0.2 0 _ rfl
    have ea01 := Ba0.2 1 _ rfl
    have ea02 := Ba0.2 2 _ rfl
    have za1 := Ba1.1
    have ea10 := Ba1.2 0 _ rfl
    have ea11 := Ba1.2 1 _ rfl
    have ea12 := Ba1.2 2 _ rfl
    have zx0 := Bx0.1
    have ex00 := Bx0.2 0 _ rfl
    have ex01 := Bx0.2 1 _ rfl
    have ex02 := Bx0.2 2 _ rfl
    have zx1 := Bx1.1
    have ex10 := Bx1.2 0 _ rfl
    have ex11 := Bx1.2 1 _ rfl
    have ex12 := Bx1.2 2 _ rfl
    go_wp2_with fail
    refine (markChart_any W1 H1 _ _ _ _ _ Ot5 hn1 (by omega) (by omega)).mono ?_
    rintro e w_11 ⟨rfl, own, hg⟩
    have zb := Ba0.1; replace Ba0 := Ba0.mark hg (fun k hk => by have := Obt5.out k hk; omega); clear zb
    have zb := Ba1.1; replace Ba1 := Ba1.mark hg (fun k hk => by have := Obt5.out k hk; omega); clear zb
    have zb := Bx0.1; replace Bx0 := Bx0.mark hg (fun k hk => by have := Obt5.out k hk; omega); clear zb
    have zb := Bx1.1; replace Bx1 := Bx1.mark hg (fun k hk => by have := Obt5.out k hk; omega); clear zb
    replace R0 := R0.mark hg (fun k hk => by have := Obt5.out k hk; omega) hz
    replace R1 := R1.mark hg (fun k hk => by have := Obt5.out k hk; omega) hz
    replace Or3 := Or3.mark hg (fun k k' hk hk' => by have := Obt5.out k hk; have := Obr3.out k' hk'; omega)
    replace Ot4 := Ot4.mark hg (fun k k' hk hk' => by have := Obt5.out k hk; have := Obt4.out k' hk'; omega)
    replace Or6 := Or6.mark hg (fun k k' hk hk' => by have := Obt5.out k hk; have := Obr6.out k' hk'; omega)
    replace Ot5 := own; clear own
    replace HB := Lib.hid (HB.out.grown hg hz (fun k hk => by have := Obt5.out k hk; omega))
    have hsw_11 : w_10.heap.size ≤ w_11.heap.size := hg.size
    replace hz : w.heap.size ≤ w_11.heap.size := Nat.le_trans hz hsw_11
    clear hg za0 ea00 ea01 ea02 za1 ea10 ea11 ea12 zx0 ex00 ex01 ex02 zx1 ex10 ex11 ex12
    have za0 := Ba0.1
    have ea00 := Ba0.2 0 _ rfl
    have ea01 := Ba0.2 1 _ rfl
    have ea02 := Ba0.2 2 _ rfl
    have za1 := Ba1.1
    have ea10 := Ba1.2 0 _ rfl
    have ea11 := Ba1.2 1 _ rfl
    have ea12 := Ba1.2 2 _ rfl
    have zx0 := Bx0.1
    have ex00 := Bx0.2 0 _ rfl
    have ex01 := Bx0.2 1 _ rfl
    have ex02 := Bx0.2 2 _ rfl
    have zx1 := Bx1.1
    have ex10 := Bx1.2 0 _ rfl
    have ex11 := Bx1.2 1 _ rfl
    have ex12 := Bx1.2 2 _ rfl
    go_wp2_with fail
    refine (eqPS_same _ _ _ _ _ _ _ _ ys _ Or6.rd Or3.rd (Nat.le_refl _) (Nat.le_refl _)).mono ?_
    rintro e w_12 ⟨rfl, hb⟩
    replace Ba0 := Ba0.all hb
    replace Ba1 := Ba1.all hb
    replace Bx0 := Bx0.all hb
    replace Bx1 := Bx1.all hb
    replace R0 := R0.all hb hz
    replace R1 := R1.all hb hz
    replace Or3 := Or3.all hb
    replace Ot4 := Ot4.all hb
    replace Ot5 := Ot5.all hb
    replace Or6 := Or6.all hb
    have hsw_12 : w_11.heap.size ≤ w_12.heap.size := hb.size
    replace HB := Lib.hid (HB.out.trans (hb.mono hz))
    replace hz : w.heap.size ≤ w_12.heap.size := by omega
    clear hb za0 ea00 ea01 ea02 za1 ea10 ea11 ea12 zx0 ex00 ex01 ex02 zx1 ex10 ex11 ex12
    have za0 := Ba0.1
    have ea00 := Ba0.2 0 _ rfl
    have ea01 := Ba0.2 1 _ rfl
    have ea02 := Ba0.2 2 _ rfl
    have za1 := Ba1.1
    have ea10 := Ba1.2 0 _ rfl
    have ea11 := Ba1.2 1 _ rfl
    have ea12 := Ba1.2 2 _ rfl
    have zx0 := Bx0.1
    have ex00 := Bx0.2 0 _ rfl
    have ex01 := Bx0.2 1 _ rfl
    have ex02 := Bx0.2 2 _ rfl
    have zx1 := Bx1.1
    have ex10 := Bx1.2 0 _ rfl
    have ex11 := Bx1.2 1 _ rfl
    have ex12 := Bx1.2 2 _ rfl
    go_wp2_with fail
    refine (markPS_any _ _ _ _ _ Or6 hl (by omega) (by omega)).mono ?_
    rintro e w_13 ⟨rfl, own, hg⟩
    have zb := Ba0.1; replace Ba0 := Ba0.mark hg (fun k hk => by have := Obr6.out k hk; omega); clear zb
    have zb := Ba1.1; replace Ba1 := Ba1.mark hg (fun k hk => by have := Obr6.out k hk; omega); clear zb
    have zb := Bx0.1; replace Bx0 := Bx0.mark hg (fun k hk => by have := Obr6.out k hk; omega); clear zb
    have zb := Bx1.1; replace Bx1 := Bx1.mark hg (fun k hk => by have := Obr6.out k hk; omega); clear zb
    replace R0 := R0.mark hg (fun k hk => by have := Obr6.out k hk; omega) hz
    replace R1 := R1.mark hg (fun k hk => by have := Obr6.out k hk; omega) hz
    replace Or3 := Or3.mark hg (fun k k' hk hk' => by have := Obr6.out k hk; have := Obr3.out k' hk'; omega)
    replace Ot4 := Ot4.mark hg (fun k k' hk hk' => by have := Obr6.out k hk; have := Obt4.out k' hk'; omega)
    replace Ot5 := Ot5.mark hg (fun k k' hk hk' => by have := Obr6.out k hk; have := Obt5.out k' hk'; omega)
    replace Or6 := own; clear own
    replace HB := Lib.hid (HB.out.grown hg hz (fun k hk => by have := Obr6.out k hk; omega))
    have hsw_13 : w_12.heap.size ≤ w_13.heap.size := hg.size
    replace hz : w.heap.size ≤ w_13.heap.size := Nat.le_trans hz hsw_13
    clear hg za0 ea00 ea01 ea02 za1 ea10 ea11 ea12 zx0 ex00 ex01 ex02 zx1 ex10 ex11 ex12
    have za0 := Ba0.1
    have ea00 := Ba0.2 0 _ rfl
    have ea01 := Ba0.2 1 _ rfl
    have ea02 := Ba0.2 2 _ rfl
    have za1 := Ba1.1
    have ea10 := Ba1.2 0 _ rfl
    have ea11 := Ba1.2 1 _ rfl
    have ea12 := Ba1.2 2 _ rfl
    have zx0 := Bx0.1
    have ex00 := Bx0.2 0 _ rfl
    have ex01 := Bx0.2 1 _ rfl
    have ex02 := Bx0.2 2 _ rfl
    have zx1 := Bx1.1
    have ex10 := Bx1.2 0 _ rfl
    have ex11 := Bx1.2 1 _ rfl
    have ex12 := Bx1.2 2 _ rfl
    go_wp2_with fail
    refine (heldPS_any _ _ _ _ _ _ Or6.rd (Nat.le_refl _) hl (by omega) (by omega)).mono ?_
    rintro e w_14 ⟨rfl, hb⟩
    replace Ba0 := Ba0.all hb
    replace Ba1 := Ba1.all hb
    replace Bx0 := Bx0.all hb
    replace Bx1 := Bx1.all hb
    replace R0 := R0.all hb hz
    replace R1 := R1.all hb hz
    replace Or3 := Or3.all hb
    replace Ot4 := Ot4.all hb
    replace Ot5 := Ot5.all hb
    replace Or6 := Or6.all hb
    have hsw_14 : w_13.heap.size ≤ w_14.heap.size := hb.size
    replace HB := Lib.hid (HB.out.trans (hb.mono hz))
    replace hz : w.heap.size ≤ w_14.heap.size := by omega
    clear hb za0 ea00 ea01 ea02 za1 ea10 ea11 ea12 zx0 ex00 ex01 ex02 zx1 ex10 ex11 ex12
    have za0 := Ba0.1
    have ea00 := Ba0.2 0 _ rfl
    have ea01 := Ba0.2 1 _ rfl
    have ea02 := Ba0.2 2 _ rfl
    have za1 := Ba1.1
    have ea10 := Ba1.2 0 _ rfl
    have ea11 := Ba1.2 1 _ rfl
    have ea12 := Ba1.2 2 _ rfl
    have zx0 := Bx0.1
    have ex00 := Bx0.2 0 _ rfl
    have ex01 := Bx0.2 1 _ rfl
    have ex02 := Bx0.2 2 _ rfl
    have zx1 := Bx1.1
    have ex10 := Bx1.2 0 _ rfl
    have ex11 := Bx1.2 1 _ rfl
    have ex12 := Bx1.2 2 _ rfl
    go_wp2_with fail
    go_cut [15, 16] (fun s15 s16 wx => ∃ (A : Option Addr) (c : Nat), s15 = .slice A ys.length c ∧ s16 = .bool ok ∧ OwnF pairF wx w_14.heap.size (.slice A ys.length c) ys ∧ Below w_14.heap.size w_14 wx)
    case first =>
      refine wp_region_noPanic ?_
      refine wp_region_held_drew (S := (fun w' => w'.cell? ⟨w.heap.size, 0, none⟩ = some (.int .i64 W0) ∧ w'.cell? ⟨w.heap.size, 1, none⟩ = some (.int .i64 H0) ∧ w'.cell? ⟨w.heap.size, 2, none⟩ = some (.slice A0 xs0.length c0) ∧ w'.cell? ⟨w.heap.size + 1, 0, none⟩ = some (.int .i64 W1) ∧ w'.cell? ⟨w.heap.size + 1, 1, none⟩ = some (.int .i64 H1) ∧ w'.cell? ⟨w.heap.size + 1, 2, none⟩ = some (.slice A1 xs1.length c1))) (by kernel_rfl) (by go_keep) (fun hHeld => ?_)
      refine wpAnyH_take (i := 0) (v := ?_) rfl (by kernel_rfl) (by kernel_rfl) (by kernel_rfl) (fun _ _ _ h => h) (Or.inl ⟨by rfl, ?_⟩) (by assumption) ?_
      rotate_left
      · intro w hSw; (try dsimp only at hSw); go_simp; (try with_reducible rfl)
      (try simp only [Act.put, List.getElem_toArray, List.getElem_cons_zero, List.setIfInBounds_toArray, List.set_cons_zero, List.set_cons_succ])
      refine wpAnyH_take (i := 2) (v := ?_) rfl (by kernel_rfl) (by kernel_rfl) (by kernel_rfl) (fun _ _ _ h => h) (Or.inl ⟨by rfl, ?_⟩) (by assumption) ?_
      rotate_left
      · intro w hSw; (try dsimp only at hSw); go_simp; (try with_reducible rfl)
      (try simp only [Act.put, List.getElem_toArray, List.getElem_cons_zero, List.getElem_cons_succ, List.setIfInBounds_toArray, List.set_cons_zero, List.set_cons_succ])
      have HB0 := belowD (Below.refl w_14.heap.size w_14)
      clear hHeld
      refine wpAnyH_ready (rs := [1]) (by kernel_rfl) (by simp) ?_
      refine AllReadyH.cons rfl (fun K hK => ?_) ?_
      · go_simp
        refine (toChart_any W0 H0 A0 _ c0 w.heap.size xs0 _ (R0.below HB0 hz) (Nat.le_trans hz HB0.size) hn0).mono ?_
        rintro e wq1 ⟨gd0, rfl, own, hb⟩
        have HB1 := HB0.trans (hb.mono HB0.size)
        have O1_0 := own.mono HB0.size
        clear own hb
        refine hK.out _ _ (by exact ⟨cells_of HB1 ea00 za0, cells_of HB1 ea01 za0, cells_of HB1 ea02 za0, cells_of HB1 ea10 za1, cells_of HB1 ea11 za1, cells_of HB1 ea12 za1⟩) (fun hHeld => ?_)
        clear hK K hHeld
        (try simp only [Act.put, List.getElem_toArray, List.getElem_cons_zero, List.getElem_cons_succ, List.setIfInBounds_toArray, List.set_cons_zero, List.set_cons_succ])
        refine wpAnyH_ready (rs := [3]) (by kernel_rfl) (by simp) ?_
        refine AllReadyH.cons rfl (fun K hK => ?_) ?_
        · go_simp
          refine (toChart_any W1 H1 A1 _ c1 w.heap.size xs1 _ (R1.below HB1 hz) (Nat.le_trans hz HB1.size) hn1).mono ?_
          rintro e wq2 ⟨gd1, rfl, own, hb⟩
          have HB2 := HB1.trans (hb.mono HB1.size)
          have O2_0 := O1_0.all hb
          have O2_1 := own.mono HB1.size
          clear own hb
          refine hK.out _ _ (by exact ⟨cells_of HB2 ea00 za0, cells_of HB2 ea01 za0, cells_of HB2 ea02 za0, cells_of HB2 ea10 za1, cells_of HB2 ea11 za1, cells_of HB2 ea12 za1⟩) (fun hHeld => ?_)
          clear hK K hHeld
          (try simp only [Act.put, List.getElem_toArray, List.getElem_cons_zero, List.getElem_cons_succ, List.setIfInBounds_toArray, List.set_cons_zero, List.set_cons_succ])
          refine wpAnyH_ready (rs := [4]) (by kernel_rfl) (by simp) ?_
          refine AllReadyH.cons rfl (fun K hK => ?_) ?_
          · go_simp
            refine (himpl.out _ _ _ _ _ O2_0.rd O2_1.rd).mono ?_
            rintro e wq3 ⟨Ar, cr, rfl, own, hb⟩
            have HB3 := HB2.trans (hb.mono HB2.size)
            have OF3 := own.mono HB2.size
            clear hb
            refine hK.out _ _ (by exact ⟨cells_of HB3 ea00 za0, cells_of HB3 ea01 za0, cells_of HB3 ea02 za0, cells_of HB3 ea10 za1, cells_of HB3 ea11 za1, cells_of HB3 ea12 za1⟩) (fun hHeld => ?_)
            clear hK K
            (try simp only [Act.put, List.getElem_toArray, List.getElem_cons_zero, List.getElem_cons_succ, List.setIfInBounds_toArray, List.set_cons_zero, List.set_cons_succ])
            refine wpAnyH_take (i := 5) (v := ?_) rfl (by kernel_rfl) (by kernel_rfl) (by kernel_rfl) (fun _ _ _ h => h) (Or.inl ⟨by rfl, ?_⟩) (by assumption) ?_
            rotate_left
            · intro w hSw; (try dsimp only at hSw); go_simp; (try with_reducible rfl)
            (try simp only [Act.put, List.getElem_toArray, List.getElem_cons_zero, List.getElem_cons_succ, List.setIfInBounds_toArray, List.set_cons_zero, List.set_cons_succ])
            refine wpAnyH_take (i := 6) (v := ?_) rfl (by kernel_rfl) (by kernel_rfl) (by kernel_rfl) (fun _ _ _ h => h) (Or.inl ⟨by rfl, ?_⟩) (by assumption) ?_
            rotate_left
            · intro w hSw; (try dsimp only at hSw); go_simp; (try with_reducible rfl)
            (try simp only [Act.put, List.getElem_toArray, List.getElem_cons_zero, List.getElem_cons_succ, List.setIfInBounds_toArray, List.set_cons_zero, List.set_cons_succ])
            refine wpAnyH_take (i := 7) (v := ?_) rfl (by kernel_rfl) (by kernel_rfl) (by kernel_rfl) (fun _ _ _ h => h) (Or.inl ⟨by rfl, ?_⟩) (by assumption) ?_
            rotate_left
            · intro w hSw; (try dsimp only at hSw); go_simp; (try with_reducible rfl)
            (try simp only [Act.put, List.getElem_toArray, List.getElem_cons_zero, List.getElem_cons_succ, List.setIfInBounds_toArray, List.set_cons_zero, List.set_cons_succ])
            refine wpAnyH_take (i := 8) (v := ?_) rfl (by kernel_rfl) (by kernel_rfl) (by kernel_rfl) (fun _ _ _ h => h) (Or.inl ⟨by rfl, ?_⟩) (by assumption) ?_
            rotate_left
            · intro w hSw; (try dsimp only at hSw); go_simp; (try with_reducible rfl)
            (try simp only [Act.put, List.getElem_toArray, List.getElem_cons_zero, List.getElem_cons_succ, List.setIfInBounds_toArray, List.set_cons_zero, List.set_cons_succ])
            refine wpAnyH_take (i := 9) (v := ?_) rfl (by kernel_rfl) (by kernel_rfl) (by kernel_rfl) (fun _ _ _ h => h) (Or.inl ⟨by rfl, ?_⟩) (by assumption) ?_
            rotate_left
            · intro w hSw; (try dsimp only at hSw); go_simp; (try with_reducible rfl)
            (try simp only [Act.put, List.getElem_toArray, List.getElem_cons_zero, List.getElem_cons_succ, List.setIfInBounds_toArray, List.set_cons_zero, List.set_cons_succ])
            clear hHeld
            refine wpAnyH_done (by kernel_rfl) ?_ _
            refine NoPanic.normal ?_
            go_wp2_with fail
            go_meet
            exact ⟨_, _, rfl, rfl, OF3, HB3⟩
          exact AllReadyH.nil
        exact AllReadyH.nil
      exact AllReadyH.nil
    case rest =>
      obtain ⟨A_15, c_15, rfl, rfl, own, hb⟩ := hcut
      obtain ⟨w_15, hw⟩ : ∃ w_15, w_15 = wc := ⟨_, rfl⟩
      subst hw
      replace Ba0 := Ba0.all hb
      replace Ba1 := Ba1.all hb
      replace Bx0 := Bx0.all hb
      replace Bx1 := Bx1.all hb
      replace R0 := R0.all hb hz
      replace R1 := R1.all hb hz
      replace Or3 := Or3.all hb
      replace Ot4 := Ot4.all hb
      replace Ot5 := Ot5.all hb
      replace Or6 := Or6.all hb
      replace HB := Lib.hid (HB.out.trans (hb.mono hz))
      have hsw_15 : w_14.heap.size ≤ w_15.heap.size := hb.size
      replace hz : w.heap.size ≤ w_15.heap.size := Nat.le_trans hz hsw_15
      clear hb za0 ea00 ea01 ea02 za1 ea10 ea11 ea12 zx0 ex00 ex01 ex02 zx1 ex10 ex11 ex12
      have Or15 := own; clear own
      have Obr15 := Lib.hid Or15.bd
      have za0 := Ba0.1
      have ea00 := Ba0.2 0 _ rfl
      have ea01 := Ba0.2 1 _ rfl
      have ea02 := Ba0.2 2 _ rfl
      have za1 := Ba1.1
      have ea10 := Ba1.2 0 _ rfl
      have ea11 := Ba1.2 1 _ rfl
      have ea12 := Ba1.2 2 _ rfl
      have zx0 := Bx0.1
      have ex00 := Bx0.2 0 _ rfl
      have ex01 := Bx0.2 1 _ rfl
      have ex02 := Bx0.2 2 _ rfl
      have zx1 := Bx1.1
      have ex10 := Bx1.2 0 _ rfl
      have ex11 := Bx1.2 1 _ rfl
      have ex12 := Bx1.2 2 _ rfl
      go_wp2_with fail
      refine (eqPS_same _ _ _ _ _ _ _ _ ys _ Or15.rd Or3.rd (Nat.le_refl _) (Nat.le_refl _)).mono ?_
      rintro e w_16 ⟨rfl, hb⟩
      replace Ba0 := Ba0.all hb
      replace Ba1 := Ba1.all hb
      replace Bx0 := Bx0.all hb
      replace Bx1 := Bx1.all hb
      replace R0 := R0.all hb hz
      replace R1 := R1.all hb hz
      replace Or3 := Or3.all hb
      replace Ot4 := Ot4.all hb
      replace Ot5 := Ot5.all hb
      replace Or6 := Or6.all hb
      replace Or15 := Or15.all hb
      have hsw_16 : w_15.heap.size ≤ w_16.heap.size := hb.size
      replace HB := Lib.hid (HB.out.trans (hb.mono hz))
      replace hz : w.heap.size ≤ w_16.heap.size := by omega
      clear hb za0 ea00 ea01 ea02 za1 ea10 ea11 ea12 zx0 ex00 ex01 ex02 zx1 ex10 ex11 ex12
      have za0 := Ba0.1
      have ea00 := Ba0.2 0 _ rfl
      have ea01 := Ba0.2 1 _ rfl
      have ea02 := Ba0.2 2 _ rfl
      have za1 := Ba1.1
      have ea10 := Ba1.2 0 _ rfl
      have ea11 := Ba1.2 1 _ rfl
      have ea12 := Ba1.2 2 _ rfl
      have zx0 := Bx0.1
      have ex00 := Bx0.2 0 _ rfl
      have ex01 := Bx0.2 1 _ rfl
      have ex02 := Bx0.2 2 _ rfl
      have zx1 := Bx1.1
      have ex10 := Bx1.2 0 _ rfl
      have ex11 := Bx1.2 1 _ rfl
      have ex12 := Bx1.2 2 _ rfl
      go_wp2_with fail
      refine (heldPS_any _ _ _ _ _ _ Or6.rd (Nat.le_refl _) hl (by omega) (by omega)).mono ?_
      rintro e w_17 ⟨rfl, hb⟩
      replace Ba0 := Ba0.all hb
      replace Ba1 := Ba1.all hb
      replace Bx0 := Bx0.all hb
      replace Bx1 := Bx1.all hb
      replace R0 := R0.all hb hz
      replace R1 := R1.all hb hz
      replace Or3 := Or3.all hb
      replace Ot4 := Ot4.all hb
      replace Ot5 := Ot5.all hb
      replace Or6 := Or6.all hb
      replace Or15 := Or15.all hb
      have hsw_17 : w_16.heap.size ≤ w_17.heap.size := hb.size
      replace HB := Lib.hid (HB.out.trans (hb.mono hz))
      replace hz : w.heap.size ≤ w_17.heap.size := by omega
      clear hb za0 ea00 ea01 ea02 za1 ea10 ea11 ea12 zx0 ex00 ex01 ex02 zx1 ex10 ex11 ex12
      go_wp2_with fail
      go_ret
      exact ⟨rfl, HB.out⟩

set_option maxRecDepth 100000 in
set_option maxHeartbeats 400000 in
theorem big (w : World) (W0 H0 : Int) (A0 : Option Addr) (n0 c0 : Nat) (_xs0 : List Int) (W1 H1 : Int) (A1 : Option Addr) (n1 c1 : Nat) (_xs1 : List Int) (hlt : n0 ≤ 9223372036854775807) (_hlt2 : n1 ≤ 9223372036854775807) (hn : ¬ n0 ≤ 1048576) : Calls Try.prog 8 #[chartV W0 H0 (.slice A0 n0 c0), chartV W1 H1 (.slice A1 n1 c1)] w fun e w' => e = .returned (.bool true) ∧ Below w.heap.size w w' := by
  have HB := Lib.hid (((Below.refl w.heap.size w).alloc (Nat.le_refl _) (.cells #[.int .i64 W0, .int .i64 H0, .slice A0 n0 c0] 24)).alloc (by simp) (.cells #[.int .i64 W1, .int .i64 H1, .slice A1 n1 c1] 24))
  have B1 := (Blk.new (w.alloc (.cells #[.int .i64 W0, .int .i64 H0, .slice A0 n0 c0] 24)) #[.int .i64 W1, .int .i64 H1, .slice A1 n1 c1] 24).at_ (q := w.heap.size + 1) (by simp)
  clear B1
  go_enter Try.func8, Try.ntmps8
  go_wp2_with fail
  refine (szChart_big W0 H0 A0 n0 c0 _ hn hlt).mono ?_
  rintro e w1 ⟨rfl, hb⟩
  replace HB := Lib.hid (HB.out.trans (hb.mono (by simp; omega)))
  clear hb
  go_wp2_with fail
  go_ret
  exact ⟨rfl, HB.out⟩
set_option maxRecDepth 100000 in
set_option maxHeartbeats 400000 in
theorem bigB (w : World) (W0 H0 : Int) (A0 : Option Addr) (n0 c0 : Nat) (_xs0 : List Int) (W1 H1 : Int) (A1 : Option Addr) (n1 c1 : Nat) (_xs1 : List Int) (hlt : n0 ≤ 9223372036854775807) (hlt2 : n1 ≤ 9223372036854775807) (hn : n0 ≤ 1048576) (hn2 : ¬ n0 + n1 ≤ 1048576) : Calls Try.prog 8 #[chartV W0 H0 (.slice A0 n0 c0), chartV W1 H1 (.slice A1 n1 c1)] w fun e w' => e = .returned (.bool true) ∧ Below w.heap.size w w' := by
  have HB := Lib.hid (((Below.refl w.heap.size w).alloc (Nat.le_refl _) (.cells #[.int .i64 W0, .int .i64 H0, .slice A0 n0 c0] 24)).alloc (by simp) (.cells #[.int .i64 W1, .int .i64 H1, .slice A1 n1 c1] 24))
  have B1 := (Blk.new (w.alloc (.cells #[.int .i64 W0, .int .i64 H0, .slice A0 n0 c0] 24)) #[.int .i64 W1, .int .i64 H1, .slice A1 n1 c1] 24).at_ (q := w.heap.size + 1) (by simp)
  go_enter Try.func8, Try.ntmps8
  go_wp2_with fail
  refine (szChart_ok W0 H0 A0 n0 c0 _ hn).mono ?_
  rintro e w1 ⟨rfl, hb⟩
  replace HB := Lib.hid (HB.out.trans (hb.mono (by simp; omega)))
  replace B1 := B1.all hb
  clear hb
  have e0 := B1.cell 0
  have e1 := B1.cell 1
  have e2 := B1.cell 2
  go_wp2_with fail
  refine (szChart_over W1 H1 A1 n1 c1 _ _ (by omega) (by omega) (by omega) hlt2).mono ?_
  rintro e w2 ⟨rfl, hb⟩
  replace HB := Lib.hid (HB.out.trans (hb.mono HB.out.size))
  clear hb
  go_wp2_with fail
  go_ret
  exact ⟨rfl, HB.out⟩
theorem walk (w : World) (W0 H0 : Int) (A0 : Option Addr) (n0 c0 : Nat) (xs0 : List Int) (_wW0 : I64 W0) (_wH0 : I64 H0) (h0 : Rd w w.heap.size A0 n0 c0 xs0) (W1 H1 : Int) (A1 : Option Addr) (n1 c1 : Nat) (xs1 : List Int) (_wW1 : I64 W1) (_wH1 : I64 H1) (h1 : Rd w w.heap.size A1 n1 c1 xs1) : Calls Try.prog 8 #[chartV W0 H0 (.slice A0 n0 c0), chartV W1 H1 (.slice A1 n1 c1)] w fun e w' => e = .returned (.bool true) ∧ Below w.heap.size w w' := by
  by_cases hn0 : n0 ≤ 1048576
  · by_cases hn : n0 + n1 ≤ 1048576
    · exact core w W0 H0 A0 n0 c0 xs0 W1 H1 A1 n1 c1 xs1 h0 h1 hn0 (by omega) hn _ _ (Nat.le_trans swX_len (by omega)) (Lib.hid (fun w A0 c0 A1 c1 h0 h1 => specSwappedColors_any W0 H0 A0 _ c0 _ xs0 W1 H1 A1 _ c1 _ xs1 w h0 (Nat.le_refl _) h1 (Nat.le_refl _))) (Lib.hid (fun w A0 c0 A1 c1 h0 h1 => implSwappedColors_any W0 H0 A0 _ c0 _ xs0 W1 H1 A1 _ c1 _ xs1 w h0 (Nat.le_refl _) h1 (Nat.le_refl _)))
    · exact bigB w W0 H0 A0 n0 c0 xs0 W1 H1 A1 n1 c1 xs1 h0.len_lt h1.len_lt hn0 hn
  · exact big w W0 H0 A0 n0 c0 xs0 W1 H1 A1 n1 c1 xs1 h0.len_lt h1.len_lt hn0
end Go.Proofs.Ytiglbidfjcjhgaa.swappedColors
