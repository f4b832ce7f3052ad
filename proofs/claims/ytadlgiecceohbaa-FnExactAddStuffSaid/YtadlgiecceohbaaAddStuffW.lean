/- The walk of the law FnExactAddStuff. No condition. -/
import Derived.Test.YtadlgiecceohbaaAddStuff
import Derived.Test.YtadlgiecceohbaaDyePartHelp
import Derived.Test.YtadlgiecceohbaaBathHelp
import Derived.Deep.DeepCutAuto
namespace Go.Proofs.Ytadlgiecceohbaa.addStuff
open Go.RowKit

set_option maxRecDepth 100000 in
set_option maxHeartbeats 4000000 in
theorem core (w : World) (A0 : Option Addr) (n0 c0 : Nat) (xs0 : List DyePartR) (L1 T1 Y1 : Int) (A1 : Option Addr) (n1 c1 : Nat) (xs1 : List Int) (s2 : ByteArray) (a3 : Int) (h0 : RdF dyePartL w w.heap.size A0 n0 c0 xs0) (h1 : Rd w w.heap.size A1 n1 c1 xs1) (hn : n0 + bulkDyePart xs0 + n1 ≤ 1048576) (hs2 : s2.size ≤ 1048576) (rL rT rY : Int) (ys : List Int) (ok : Bool) (hl : ys.length ≤ 1048576) (hspec : Hid (∀ (w : World) (A0 : Option Addr) (c0 : Nat) (A1 : Option Addr) (c1 : Nat), RdF dyePartF w w.heap.size A0 xs0.length c0 xs0 → Rd w w.heap.size A1 xs1.length c1 xs1 → Calls Try.prog 35 #[.slice A0 xs0.length c0, bathV L1 T1 Y1 (.slice A1 xs1.length c1), .string s2, .int .i64 a3] w (OutBath w rL rT rY ys ok))) (himpl : Hid (∀ (w : World) (A0 : Option Addr) (c0 : Nat) (A1 : Option Addr) (c1 : Nat), RdF dyePartF w w.heap.size A0 xs0.length c0 xs0 → Rd w w.heap.size A1 xs1.length c1 xs1 → Calls Try.prog 36 #[.slice A0 xs0.length c0, bathV L1 T1 Y1 (.slice A1 xs1.length c1), .string s2, .int .i64 a3] w (OutBath w rL rT rY ys ok))) :
    Calls Try.prog 9 #[.slice A0 n0 c0, bathV L1 T1 Y1 (.slice A1 n1 c1), .string s2, .int .i64 a3] w fun e w' => e = .returned (.bool true) ∧ Below w.heap.size w w' := by
  have HB := Lib.hid (Below.refl w.heap.size w)
  have hz : w.heap.size ≤ w.heap.size := Nat.le_refl _
  have R0 := h0; have hl0 := h0.len; subst hl0; clear h0
  have R1 := h1; have hl1 := h1.len; subst hl1; clear h1
  have hq0 : 0 ≤ ((xs0.length + bulkDyePart xs0 : Nat) : Int) := by omega
  have hq1 : ((xs0.length + bulkDyePart xs0 : Nat) : Int) ≤ 1048576 := by omega
  have hn0 : xs0.length ≤ 1048576 := by omega
  have hn1 : xs1.length ≤ 1048576 := by omega
  go_enter Try.func9, Try.ntmps9
  go_wp2_with fail
  refine (szDyePartS_yes A0 _ c0 _ xs0 _ _ (R0.alloc (by first | omega | (simp; done) | (simp; omega)) _) (by first | omega | (simp; done) | (simp; omega)) (by omega) (by omega)).mono ?_
  rintro e w_1 ⟨rfl, hb⟩
  have hb0 := hb
  replace hb := ((Below.refl w.heap.size w).alloc (by simp) _).trans (hb0.mono (by first | omega | (simp; done) | (simp; omega)))
  replace R0 := R0.all hb hz
  replace R1 := R1.all hb hz
  have Ba1 := (Box.new w #[.int .i64 L1, .int .i64 T1, .int .i64 Y1, .slice A1 xs1.length c1] 31).all hb0
  have hsw_1 : w.heap.size + 1 ≤ w_1.heap.size := by have := hb0.size; simp at this; omega
  clear hb0
  replace HB := Lib.hid (HB.out.trans (hb.mono hz))
  replace hz : w.heap.size ≤ w_1.heap.size := by omega
  clear hb
  have za1 := Ba1.1
  have ea10 := Ba1.2 0 _ rfl
  have ea11 := Ba1.2 1 _ rfl
  have ea12 := Ba1.2 2 _ rfl
  have ea13 := Ba1.2 3 _ rfl
  go_wp2_with fail
  refine (szBath_rest L1 T1 Y1 A1 _ c1 _ _ (by omega) (by omega)).mono ?_
  rintro e w_2 ⟨rfl, hb⟩
  replace Ba1 := Ba1.all hb
  replace R0 := R0.all hb hz
  replace R1 := R1.all hb hz
  have hsw_2 : w_1.heap.size ≤ w_2.heap.size := hb.size
  replace HB := Lib.hid (HB.out.trans (hb.mono hz))
  replace hz : w.heap.size ≤ w_2.heap.size := by omega
  clear hb za1 ea10 ea11 ea12 ea13
  have za1 := Ba1.1
  have ea10 := Ba1.2 0 _ rfl
  have ea11 := Ba1.2 1 _ rfl
  have ea12 := Ba1.2 2 _ rfl
  have ea13 := Ba1.2 3 _ rfl
  go_wp2_with fail
  go_cut [10, 11] (fun sp sk wx => ∃ (q : Nat) (A : Option Addr) (c : Nat), sp = .pointer (some ⟨q, 0, none⟩) ∧ sk = .bool ok ∧ w_2.heap.size ≤ q ∧ Box wx q [.int .i64 rL, .int .i64 rT, .int .i64 rY, .slice A ys.length c] ∧ Own wx w_2.heap.size (.slice A ys.length c) ys ∧ Below w_2.heap.size w_2 wx)
  case first =>
    refine wp_region_noPanic ?_
    refine wp_region_held_drew (S := (fun w' => w'.cell? ⟨w.heap.size, 0, none⟩ = some (.int .i64 L1) ∧ w'.cell? ⟨w.heap.size, 1, none⟩ = some (.int .i64 T1) ∧ w'.cell? ⟨w.heap.size, 2, none⟩ = some (.int .i64 Y1) ∧ w'.cell? ⟨w.heap.size, 3, none⟩ = some (.slice A1 xs1.length c1))) (by kernel_rfl) (by go_keep) (fun hHeld => ?_)
    refine wpAnyH_take (i := 0) (v := ?_) rfl (by kernel_rfl) (by kernel_rfl) (by kernel_rfl) (fun _ _ _ h => h) (Or.inl ⟨by rfl, ?_⟩) (by assumption) ?_
    rotate_left
    · intro w hSw; (try dsimp only at hSw); go_simp; (try with_reducible rfl)
    (try simp only [Act.put, List.getElem_toArray, List.getElem_cons_zero, List.setIfInBounds_toArray, List.set_cons_zero, List.set_cons_succ])
    refine wpAnyH_take (i := 2) (v := ?_) rfl (by kernel_rfl) (by kernel_rfl) (by kernel_rfl) (fun _ _ _ h => h) (Or.inl ⟨by rfl, ?_⟩) (by assumption) ?_
    rotate_left
    · intro w hSw; (try dsimp only at hSw); go_simp; (try with_reducible rfl)
    (try simp only [Act.put, List.getElem_toArray, List.getElem_cons_zero, List.getElem_cons_succ, List.setIfInBounds_toArray, List.set_cons_zero, List.set_cons_succ])
    refine wpAnyH_take (i := 4) (v := ?_) rfl (by kernel_rfl) (by kernel_rfl) (by kernel_rfl) (fun _ _ _ h => h) (Or.inl ⟨by rfl, ?_⟩) (by assumption) ?_
    rotate_left
    · intro w hSw; (try dsimp only at hSw); go_simp; (try with_reducible rfl)
    (try simp only [Act.put, List.getElem_toArray, List.getElem_cons_zero, List.getElem_cons_succ, List.setIfInBounds_toArray, List.set_cons_zero, List.set_cons_succ])
    refine wpAnyH_take (i := 5) (v := ?_) rfl (by kernel_rfl) (by kernel_rfl) (by kernel_rfl) (fun _ _ _ h => h) (Or.inl ⟨by rfl, ?_⟩) (by assumption) ?_
    rotate_left
    · intro w hSw; (try dsimp only at hSw); go_simp; (try with_reducible rfl)
    (try simp only [Act.put, List.getElem_toArray, List.getElem_cons_zero, List.getElem_cons_succ, List.setIfInBounds_toArray, List.set_cons_zero, List.set_cons_succ])
    have HB0 := belowD (Below.refl w_2.heap.size w_2)
    clear hHeld
    refine wpAnyH_ready (rs := [1, 10]) (by kernel_rfl) (by simp) ?_
    refine AllReadyH.cons rfl (fun K hK => ?_) ?_
    · go_simp
      refine (toDyePartS_any A0 _ c0 w.heap.size xs0 _ (R0.below HB0 hz) (Nat.le_trans hz HB0.size) hn0).mono ?_
      rintro e wq1 ⟨gd0, rfl, own, hb⟩
      have HB1 := HB0.trans (hb.mono HB0.size)
      have O1_0 := own.mono HB0.size
      clear own hb
      refine hK.out _ _ (by exact ⟨cells_of HB1 ea10 za1, cells_of HB1 ea11 za1, cells_of HB1 ea12 za1, cells_of HB1 ea13 za1⟩) (fun hHeld => ?_)
      clear hK K hHeld
      (try simp only [Act.put, List.getElem_toArray, List.getElem_cons_zero, List.getElem_cons_succ, List.setIfInBounds_toArray, List.set_cons_zero, List.set_cons_succ])
      refine wpAnyH_ready (rs := [3, 10]) (by kernel_rfl) (by simp) ?_
      refine AllReadyH.cons rfl (fun K hK => ?_) ?_
      · go_simp
        refine (toBath_any L1 T1 Y1 A1 _ c1 w.heap.size xs1 _ (R1.below HB1 hz) (Nat.le_trans hz HB1.size) hn1).mono ?_
        rintro e wq2 ⟨gd1, rfl, own, hb⟩
        have HB2 := HB1.trans (hb.mono HB1.size)
        have O2_0 := O1_0.all hb
        have O2_1 := own.mono HB1.size
        clear own hb
        refine hK.out _ _ (by exact ⟨cells_of HB2 ea10 za1, cells_of HB2 ea11 za1, cells_of HB2 ea12 za1, cells_of HB2 ea13 za1⟩) (fun hHeld => ?_)
        clear hK K hHeld
        (try simp only [Act.put, List.getElem_toArray, List.getElem_cons_zero, List.getElem_cons_succ, List.setIfInBounds_toArray, List.set_cons_zero, List.set_cons_succ])
        refine wpAnyH_ready (rs := [6, 10]) (by kernel_rfl) (by simp) ?_
        refine AllReadyH.cons rfl (fun K hK => ?_) ?_
        · go_simp
          refine (hspec.out _ _ _ _ _ O2_0.rd O2_1.rd).mono ?_
          rintro e wq3 ⟨Ar, cr, rfl, own, hb⟩
          have HB3 := HB2.trans (hb.mono HB2.size)
          have OF3 := own.mono HB2.size
          clear hb
          refine hK.out _ _ (by exact ⟨cells_of HB3 ea10 za1, cells_of HB3 ea11 za1, cells_of HB3 ea12 za1, cells_of HB3 ea13 za1⟩) (fun hHeld => ?_)
          clear hK K
          (try simp only [Act.put, List.getElem_toArray, List.getElem_cons_zero, List.getElem_cons_succ, List.setIfInBounds_toArray, List.set_cons_zero, List.set_cons_succ])
          refine wpAnyH_take (i := 7) (v := ?_) rfl (by kernel_rfl) (by kernel_rfl) (by kernel_rfl) (fun _ _ _ h => h) (Or.inl ⟨by rfl, ?_⟩) (by assumption) ?_
          rotate_left
          · intro w hSw; (try dsimp only at hSw); go_simp; (try with_reducible rfl)
          (try simp only [Act.put, List.getElem_toArray, List.getElem_cons_zero, List.getElem_cons_succ, List.setIfInBounds_toArray, List.set_cons_zero, List.set_cons_succ])
          refine wpAnyH_take (i := 8) (v := ?_) rfl (by kernel_rfl) (by kernel_rfl) (by kernel_rfl) (fun _ _ _ h => h) (Or.inl ⟨by rfl, ?_⟩) (by assumption) ?_
          rotate_left
          · intro w hSw; (try dsimp only at hSw); go_simp; (try with_reducible rfl)
          (try simp only [Act.put, List.getElem_toArray, List.getElem_cons_zero, List.getElem_cons_succ, List.setIfInBounds_toArray, List.set_cons_zero, List.set_cons_succ])
          refine wpAnyH_take (i := 9) (v := ?_) rfl (by kernel_rfl) (by kernel_rfl) (by kernel_rfl) (fun _ _ _ h => h) (Or.inl ⟨by rfl, ?_⟩) (by assumption) ?_
          rotate_left
          · intro w hSw; (try dsimp only at hSw); go_simp; (try with_reducible rfl)
          (try simp only [Act.put, List.getElem_toArray, List.getElem_cons_zero, List.getElem_cons_succ, List.setIfInBounds_toArray, List.set_cons_zero, List.set_cons_succ])
          clear hHeld
          refine wpAnyH_ready (rs := [10]) (by kernel_rfl) (by simp) ?_
          refine AllReadyH.cons rfl (fun K hK => ?_) ?_
          · go_simp
            have HB4 := HB3.alloc HB3.size (.cells #[.int .i64 0, .int .i64 0, .int .i64 0, .slice none 0 0] 34)
            have O4_0 := O2_0.alloc (.cells #[.int .i64 0, .int .i64 0, .int .i64 0, .slice none 0 0] 34)
            have O4_1 := O2_1.alloc (.cells #[.int .i64 0, .int .i64 0, .int .i64 0, .slice none 0 0] 34)
            have OF4 := OF3.alloc (.cells #[.int .i64 0, .int .i64 0, .int .i64 0, .slice none 0 0] 34)
            have Z4 : Blk _ wq3.heap.size _ _ := Blk.new wq3 #[.int .i64 0, .int .i64 0, .int .i64 0, .slice none 0 0] 34
            have hq4 : w_2.heap.size ≤ wq3.heap.size := HB3.size
            refine hK.out _ _ (by exact ⟨cells_of HB4 ea10 za1, cells_of HB4 ea11 za1, cells_of HB4 ea12 za1, cells_of HB4 ea13 za1⟩) (fun hHeld => ?_)
            clear hK K hHeld
            (try simp only [Act.put, List.getElem_toArray, List.getElem_cons_zero, List.getElem_cons_succ, List.setIfInBounds_toArray, List.set_cons_zero, List.set_cons_succ])
            refine wpAnyH_ready (rs := [11]) (by kernel_rfl) (by simp) ?_
            refine AllReadyH.cons rfl (fun K hK => ?_) ?_
            · go_simp
              have HB5 := HB3.alloc HB3.size (.cells #[.int .i64 rL, .int .i64 rT, .int .i64 rY, .slice Ar ys.length cr] 34)
              have OF5 := OF3.alloc (.cells #[.int .i64 rL, .int .i64 rT, .int .i64 rY, .slice Ar ys.length cr] 34)
              have Z5 := Blk.new wq3 #[.int .i64 rL, .int .i64 rT, .int .i64 rY, .slice Ar ys.length cr] 34
              refine hK.out _ _ (by exact ⟨cells_of HB5 ea10 za1, cells_of HB5 ea11 za1, cells_of HB5 ea12 za1, cells_of HB5 ea13 za1⟩) (fun hHeld => ?_)
              clear hK K
              (try simp only [Act.put, List.getElem_toArray, List.getElem_cons_zero, List.getElem_cons_succ, List.setIfInBounds_toArray, List.set_cons_zero, List.set_cons_succ])
              refine wpAnyH_take (i := 12) (v := ?_) rfl (by kernel_rfl) (by kernel_rfl) (by kernel_rfl) (fun _ _ _ h => h) (Or.inl ⟨by rfl, ?_⟩) (by assumption) ?_
              rotate_left
              · intro w hSw; (try dsimp only at hSw); go_simp; (try with_reducible rfl)
              (try simp only [Act.put, List.getElem_toArray, List.getElem_cons_zero, List.getElem_cons_succ, List.setIfInBounds_toArray, List.set_cons_zero, List.set_cons_succ])
              clear hHeld
              refine wpAnyH_done (by kernel_rfl) ?_ _
              refine NoPanic.normal ?_
              go_wp2_with fail
              go_meet
              exact ⟨wq3.heap.size, Ar, cr, rfl, rfl, hq4, Z5.box, OF5, HB5⟩
            exact AllReadyH.nil
          exact AllReadyH.nil
        refine AllReadyH.cons rfl (fun K hK => ?_) ?_
        · go_simp
          have HB6 := HB2.alloc HB2.size (.cells #[.int .i64 0, .int .i64 0, .int .i64 0, .slice none 0 0] 34)
          have O6_0 := O2_0.alloc (.cells #[.int .i64 0, .int .i64 0, .int .i64 0, .slice none 0 0] 34)
          have O6_1 := O2_1.alloc (.cells #[.int .i64 0, .int .i64 0, .int .i64 0, .slice none 0 0] 34)
          have Z6 : Blk _ wq2.heap.size _ _ := Blk.new wq2 #[.int .i64 0, .int .i64 0, .int .i64 0, .slice none 0 0] 34
          have hq6 : w_2.heap.size ≤ wq2.heap.size := HB2.size
          refine hK.out _ _ (by exact ⟨cells_of HB6 ea10 za1, cells_of HB6 ea11 za1, cells_of HB6 ea12 za1, cells_of HB6 ea13 za1⟩) (fun hHeld => ?_)
          clear hK K hHeld
          (try simp only [Act.put, List.getElem_toArray, List.getElem_cons_zero, List.getElem_cons_succ, List.setIfInBounds_toArray, List.set_cons_zero, List.set_cons_succ])
          refine wpAnyH_ready (rs := [6]) (by kernel_rfl) (by simp) ?_
          refine AllReadyH.cons rfl (fun K hK => ?_) ?_
          · go_simp
            refine (hspec.out _ _ _ _ _ O6_0.rd O6_1.rd).mono ?_
            rintro e wq7 ⟨Ar, cr, rfl, own, hb⟩
            have HB7 := HB6.trans (hb.mono HB6.size)
            have Z7 := Z6.all hb
            have OF7 := own.mono HB6.size
            clear hb
            refine hK.out _ _ (by exact ⟨cells_of HB7 ea10 za1, cells_of HB7 ea11 za1, cells_of HB7 ea12 za1, cells_of HB7 ea13 za1⟩) (fun hHeld => ?_)
            clear hK K
            (try simp only [Act.put, List.getElem_toArray, List.getElem_cons_zero, List.getElem_cons_succ, List.setIfInBounds_toArray, List.set_cons_zero, List.set_cons_succ])
            refine wpAnyH_take (i := 7) (v := ?_) rfl (by kernel_rfl) (by kernel_rfl) (by kernel_rfl) (fun _ _ _ h => h) (Or.inl ⟨by rfl, ?_⟩) (by assumption) ?_
            rotate_left
            · intro w hSw; (try dsimp only at hSw); go_simp; (try with_reducible rfl)
            (try simp only [Act.put, List.getElem_toArray, List.getElem_cons_zero, List.getElem_cons_succ, List.setIfInBounds_toArray, List.set_cons_zero, List.set_cons_succ])
            refine wpAnyH_take (i := 8) (v := ?_) rfl (by kernel_rfl) (by kernel_rfl) (by kernel_rfl) (fun _ _ _ h => h) (Or.inl ⟨by rfl, ?_⟩) (by assumption) ?_
            rotate_left
            · intro w hSw; (try dsimp only at hSw); go_simp; (try with_reducible rfl)
            (try simp only [Act.put, List.getElem_toArray, List.getElem_cons_zero, List.getElem_cons_succ, List.setIfInBounds_toArray, List.set_cons_zero, List.set_cons_succ])
            refine wpAnyH_take (i := 9) (v := ?_) rfl (by kernel_rfl) (by kernel_rfl) (by kernel_rfl) (fun _ _ _ h => h) (Or.inl ⟨by rfl, ?_⟩) (by assumption) ?_
            rotate_left
            · intro w hSw; (try dsimp only at hSw); go_simp; (try with_reducible rfl)
            (try simp only [Act.put, List.getElem_toArray, List.getElem_cons_zero, List.getElem_cons_succ, List.setIfInBounds_toArray, List.set_cons_zero, List.set_cons_succ])
            clear hHeld
            refine wpAnyH_ready (rs := [11]) (by kernel_rfl) (by simp) ?_
            refine AllReadyH.cons rfl (fun K hK => ?_) ?_
            · have zz0 := Z7.cell 0
              have zz1 := Z7.cell 1
              have zz2 := Z7.cell 2
              have zz3 := Z7.cell 3
              have zf0 := Z7.frozen 0
              have zf1 := Z7.frozen 1
              have zf2 := Z7.frozen 2
              have zf3 := Z7.frozen 3
              go_simp
              have HB8 := ((((HB7.setCell (p := ⟨wq2.heap.size, 0, none⟩) hq6 (.int .i64 rL)).setCell (p := ⟨wq2.heap.size, 1, none⟩) hq6 (.int .i64 rT)).setCell (p := ⟨wq2.heap.size, 2, none⟩) hq6 (.int .i64 rY)).setCell (p := ⟨wq2.heap.size, 3, none⟩) hq6 (.slice Ar ys.length cr))
              have hne8 := row_ne' OF7.1 Z7 (by decide)
              have OF8 := ((((OF7.far (a := ⟨wq2.heap.size, 0, none⟩) hne8 (.int .i64 rL)).far (a := ⟨wq2.heap.size, 1, none⟩) hne8 (.int .i64 rT)).far (a := ⟨wq2.heap.size, 2, none⟩) hne8 (.int .i64 rY)).far (a := ⟨wq2.heap.size, 3, none⟩) hne8 (.slice Ar ys.length cr))
              have Z8 : Blk _ _ _ #[.int .i64 rL, .int .i64 rT, .int .i64 rY, .slice Ar ys.length cr] := Z7.put4t
              clear zz0 zz1 zz2 zz3 zf0 zf1 zf2 zf3
              refine hK.out _ _ (by exact ⟨cells_of HB8 ea10 za1, cells_of HB8 ea11 za1, cells_of HB8 ea12 za1, cells_of HB8 ea13 za1⟩) (fun hHeld => ?_)
              clear hK K
              (try simp only [Act.put, List.getElem_toArray, List.getElem_cons_zero, List.getElem_cons_succ, List.setIfInBounds_toArray, List.set_cons_zero, List.set_cons_succ])
              refine wpAnyH_take (i := 12) (v := ?_) rfl (by kernel_rfl) (by kernel_rfl) (by kernel_rfl) (fun _ _ _ h => h) (Or.inl ⟨by rfl, ?_⟩) (by assumption) ?_
              rotate_left
              · intro w hSw; (try dsimp only at hSw); go_simp; (try with_reducible rfl)
              (try simp only [Act.put, List.getElem_toArray, List.getElem_cons_zero, List.getElem_cons_succ, List.setIfInBounds_toArray, List.set_cons_zero, List.set_cons_succ])
              clear hHeld
              refine wpAnyH_done (by kernel_rfl) ?_ _
              refine NoPanic.normal ?_
              go_wp2_with fail
              go_meet
              exact ⟨wq2.heap.size, Ar, cr, rfl, rfl, hq6, Z8.box, OF8, HB8⟩
            exact AllReadyH.nil
          exact AllReadyH.nil
        exact AllReadyH.nil
      refine AllReadyH.cons rfl (fun K hK => ?_) ?_
      · go_simp
        have HB9 := HB1.alloc HB1.size (.cells #[.int .i64 0, .int .i64 0, .int .i64 0, .slice none 0 0] 34)
        have O9_0 := O1_0.alloc (.cells #[.int .i64 0, .int .i64 0, .int .i64 0, .slice none 0 0] 34)
        have Z9 : Blk _ wq1.heap.size _ _ := Blk.new wq1 #[.int .i64 0, .int .i64 0, .int .i64 0, .slice none 0 0] 34
        have hq9 : w_2.heap.size ≤ wq1.heap.size := HB1.size
        refine hK.out _ _ (by exact ⟨cells_of HB9 ea10 za1, cells_of HB9 ea11 za1, cells_of HB9 ea12 za1, cells_of HB9 ea13 za1⟩) (fun hHeld => ?_)
        clear hK K hHeld
        (try simp only [Act.put, List.getElem_toArray, List.getElem_cons_zero, List.getElem_cons_succ, List.setIfInBounds_toArray, List.set_cons_zero, List.set_cons_succ])
        refine wpAnyH_ready (rs := [3]) (by kernel_rfl) (by simp) ?_
        refine AllReadyH.cons rfl (fun K hK => ?_) ?_
        · go_simp
          refine (toBath_any L1 T1 Y1 A1 _ c1 w.heap.size xs1 _ (R1.below HB9 hz) (Nat.le_trans hz HB9.size) hn1).mono ?_
          rintro e wq10 ⟨gd1, rfl, own, hb⟩
          have HB10 := HB9.trans (hb.mono HB9.size)
          have O10_0 := O9_0.all hb
          have O10_1 := own.mono HB9.size
          have Z10 := Z9.all hb
          clear own hb
          refine hK.out _ _ (by exact ⟨cells_of HB10 ea10 za1, cells_of HB10 ea11 za1, cells_of HB10 ea12 za1, cells_of HB10 ea13 za1⟩) (fun hHeld => ?_)
          clear hK K hHeld
          (try simp only [Act.put, List.getElem_toArray, List.getElem_cons_zero, List.getElem_cons_succ, List.setIfInBounds_toArray, List.set_cons_zero, List.set_cons_succ])
          refine wpAnyH_ready (rs := [6]) (by kernel_rfl) (by simp) ?_
          refine AllReadyH.cons rfl (fun K hK => ?_) ?_
          · go_simp
            refine (hspec.out _ _ _ _ _ O10_0.rd O10_1.rd).mono ?_
            rintro e wq11 ⟨Ar, cr, rfl, own, hb⟩
            have HB11 := HB10.trans (hb.mono HB10.size)
            have Z11 := Z10.all hb
            have OF11 := own.mono HB10.size
            clear hb
            refine hK.out _ _ (by exact ⟨cells_of HB11 ea10 za1, cells_of HB11 ea11 za1, cells_of HB11 ea12 za1, cells_of HB11 ea13 za1⟩) (fun hHeld => ?_)
            clear hK K
            (try simp only [Act.put, List.getElem_toArray, List.getElem_cons_zero, List.getElem_cons_succ, List.setIfInBounds_toArray, List.set_cons_zero, List.set_cons_succ])
            refine wpAnyH_take (i := 7) (v := ?_) rfl (by kernel_rfl) (by kernel_rfl) (by kernel_rfl) (fun _ _ _ h => h) (Or.inl ⟨by rfl, ?_⟩) (by assumption) ?_
            rotate_left
            · intro w hSw; (try dsimp only at hSw); go_simp; (try with_reducible rfl)
            (try simp only [Act.put, List.getElem_toArray, List.getElem_cons_zero, List.getElem_cons_succ, List.setIfInBounds_toArray, List.set_cons_zero, List.set_cons_succ])
            refine wpAnyH_take (i := 8) (v := ?_) rfl (by kernel_rfl) (by kernel_rfl) (by kernel_rfl) (fun _ _ _ h => h) (Or.inl ⟨by rfl, ?_⟩) (by assumption) ?_
            rotate_left
            · intro w hSw; (try dsimp only at hSw); go_simp; (try with_reducible rfl)
            (try simp only [Act.put, List.getElem_toArray, List.getElem_cons_zero, List.getElem_cons_succ, List.setIfInBounds_toArray, List.set_cons_zero, List.set_cons_succ])
            refine wpAnyH_take (i := 9) (v := ?_) rfl (by kernel_rfl) (by kernel_rfl) (by kernel_rfl) (fun _ _ _ h => h) (Or.inl ⟨by rfl, ?_⟩) (by assumption) ?_
            rotate_left
            · intro w hSw; (try dsimp only at hSw); go_simp; (try with_reducible rfl)
            (try simp only [Act.put, List.getElem_toArray, List.getElem_cons_zero, List.getElem_cons_succ, List.setIfInBounds_toArray, List.set_cons_zero, List.set_cons_succ])
            clear hHeld
            refine wpAnyH_ready (rs := [11]) (by kernel_rfl) (by simp) ?_
            refine AllReadyH.cons rfl (fun K hK => ?_) ?_
            · have zz0 := Z11.cell 0
              have zz1 := Z11.cell 1
              have zz2 := Z11.cell 2
              have zz3 := Z11.cell 3
              have zf0 := Z11.frozen 0
              have zf1 := Z11.frozen 1
              have zf2 := Z11.frozen 2
              have zf3 := Z11.frozen 3
              go_simp
              have HB12 := ((((HB11.setCell (p := ⟨wq1.heap.size, 0, none⟩) hq9 (.int .i64 rL)).setCell (p := ⟨wq1.heap.size, 1, none⟩) hq9 (.int .i64 rT)).setCell (p := ⟨wq1.heap.size, 2, none⟩) hq9 (.int .i64 rY)).setCell (p := ⟨wq1.heap.size, 3, none⟩) hq9 (.slice Ar ys.length cr))
              have hne12 := row_ne' OF11.1 Z11 (by decide)
              have OF12 := ((((OF11.far (a := ⟨wq1.heap.size, 0, none⟩) hne12 (.int .i64 rL)).far (a := ⟨wq1.heap.size, 1, none⟩) hne12 (.int .i64 rT)).far (a := ⟨wq1.heap.size, 2, none⟩) hne12 (.int .i64 rY)).far (a := ⟨wq1.heap.size, 3, none⟩) hne12 (.slice Ar ys.length cr))
              have Z12 : Blk _ _ _ #[.int .i64 rL, .int .i64 rT, .int .i64 rY, .slice Ar ys.length cr] := Z11.put4t
              clear zz0 zz1 zz2 zz3 zf0 zf1 zf2 zf3
              refine hK.out _ _ (by exact ⟨cells_of HB12 ea10 za1, cells_of HB12 ea11 za1, cells_of HB12 ea12 za1, cells_of HB12 ea13 za1⟩) (fun hHeld => ?_)
              clear hK K
              (try simp only [Act.put, List.getElem_toArray, List.getElem_cons_zero, List.getElem_cons_succ, List.setIfInBounds_toArray, List.set_cons_zero, List.set_cons_succ])
              refine wpAnyH_take (i := 12) (v := ?_) rfl (by kernel_rfl) (by kernel_rfl) (by kernel_rfl) (fun _ _ _ h => h) (Or.inl ⟨by rfl, ?_⟩) (by assumption) ?_
              rotate_left
              · intro w hSw; (try dsimp only at hSw); go_simp; (try with_reducible rfl)
              (try simp only [Act.put, List.getElem_toArray, List.getElem_cons_zero, List.getElem_cons_succ, List.setIfInBounds_toArray, List.set_cons_zero, List.set_cons_succ])
              clear hHeld
              refine wpAnyH_done (by kernel_rfl) ?_ _
              refine NoPanic.normal ?_
              go_wp2_with fail
              go_meet
              exact ⟨wq1.heap.size, Ar, cr, rfl, rfl, hq9, Z12.box, OF12, HB12⟩
            exact AllReadyH.nil
          exact AllReadyH.nil
        exact AllReadyH.nil
      exact AllReadyH.nil
    refine AllReadyH.cons rfl (fun K hK => ?_) ?_
    · go_simp
      have HB13 := HB0.alloc HB0.size (.cells #[.int .i64 0, .int .i64 0, .int .i64 0, .slice none 0 0] 34)
      have Z13 : Blk _ w_2.heap.size _ _ := Blk.new w_2.drew #[.int .i64 0, .int .i64 0, .int .i64 0, .slice none 0 0] 34
      have hq13 : w_2.heap.size ≤ w_2.heap.size := HB0.size
      refine hK.out _ _ (by exact ⟨cells_of HB13 ea10 za1, cells_of HB13 ea11 za1, cells_of HB13 ea12 za1, cells_of HB13 ea13 za1⟩) (fun hHeld => ?_)
      clear hK K hHeld
      (try simp only [Act.put, List.getElem_toArray, List.getElem_cons_zero, List.getElem_cons_succ, List.setIfInBounds_toArray, List.set_cons_zero, List.set_cons_succ])
      refine wpAnyH_ready (rs := [1]) (by kernel_rfl) (by simp) ?_
      refine AllReadyH.cons rfl (fun K hK => ?_) ?_
      · go_simp
        refine (toDyePartS_any A0 _ c0 w.heap.size xs0 _ (R0.below HB13 hz) (Nat.le_trans hz HB13.size) hn0).mono ?_
        rintro e wq14 ⟨gd0, rfl, own, hb⟩
        have HB14 := HB13.trans (hb.mono HB13.size)
        have O14_0 := own.mono HB13.size
        have Z14 := Z13.all hb
        clear own hb
        refine hK.out _ _ (by exact ⟨cells_of HB14 ea10 za1, cells_of HB14 ea11 za1, cells_of HB14 ea12 za1, cells_of HB14 ea13 za1⟩) (fun hHeld => ?_)
        clear hK K hHeld
        (try simp only [Act.put, List.getElem_toArray, List.getElem_cons_zero, List.getElem_cons_succ, List.setIfInBounds_toArray, List.set_cons_zero, List.set_cons_succ])
        refine wpAnyH_ready (rs := [3]) (by kernel_rfl) (by simp) ?_
        refine AllReadyH.cons rfl (fun K hK => ?_) ?_
        · go_simp
          refine (toBath_any L1 T1 Y1 A1 _ c1 w.heap.size xs1 _ (R1.below HB14 hz) (Nat.le_trans hz HB14.size) hn1).mono ?_
          rintro e wq15 ⟨gd1, rfl, own, hb⟩
          have HB15 := HB14.trans (hb.mono HB14.size)
          have O15_0 := O14_0.all hb
          have O15_1 := own.mono HB14.size
          have Z15 := Z14.all hb
          clear own hb
          refine hK.out _ _ (by exact ⟨cells_of HB15 ea10 za1, cells_of HB15 ea11 za1, cells_of HB15 ea12 za1, cells_of HB15 ea13 za1⟩) (fun hHeld => ?_)
          clear hK K hHeld
          (try simp only [Act.put, List.getElem_toArray, List.getElem_cons_zero, List.getElem_cons_succ, List.setIfInBounds_toArray, List.set_cons_zero, List.set_cons_succ])
          refine wpAnyH_ready (rs := [6]) (by kernel_rfl) (by simp) ?_
          refine AllReadyH.cons rfl (fun K hK => ?_) ?_
          · go_simp
            refine (hspec.out _ _ _ _ _ O15_0.rd O15_1.rd).mono ?_
            rintro e wq16 ⟨Ar, cr, rfl, own, hb⟩
            have HB16 := HB15.trans (hb.mono HB15.size)
            have Z16 := Z15.all hb
            have OF16 := own.mono HB15.size
            clear hb
            refine hK.out _ _ (by exact ⟨cells_of HB16 ea10 za1, cells_of HB16 ea11 za1, cells_of HB16 ea12 za1, cells_of HB16 ea13 za1⟩) (fun hHeld => ?_)
            clear hK K
            (try simp only [Act.put, List.getElem_toArray, List.getElem_cons_zero, List.getElem_cons_succ, List.setIfInBounds_toArray, List.set_cons_zero, List.set_cons_succ])
            refine wpAnyH_take (i := 7) (v := ?_) rfl (by kernel_rfl) (by kernel_rfl) (by kernel_rfl) (fun _ _ _ h => h) (Or.inl ⟨by rfl, ?_⟩) (by assumption) ?_
            rotate_left
            · intro w hSw; (try dsimp only at hSw); go_simp; (try with_reducible rfl)
            (try simp only [Act.put, List.getElem_toArray, List.getElem_cons_zero, List.getElem_cons_succ, List.setIfInBounds_toArray, List.set_cons_zero, List.set_cons_succ])
            refine wpAnyH_take (i := 8) (v := ?_) rfl (by kernel_rfl) (by kernel_rfl) (by kernel_rfl) (fun _ _ _ h => h) (Or.inl ⟨by rfl, ?_⟩) (by assumption) ?_
            rotate_left
            · intro w hSw; (try dsimp only at hSw); go_simp; (try with_reducible rfl)
            (try simp only [Act.put, List.getElem_toArray, List.getElem_cons_zero, List.getElem_cons_succ, List.setIfInBounds_toArray, List.set_cons_zero, List.set_cons_succ])
            refine wpAnyH_take (i := 9) (v := ?_) rfl (by kernel_rfl) (by kernel_rfl) (by kernel_rfl) (fun _ _ _ h => h) (Or.inl ⟨by rfl, ?_⟩) (by assumption) ?_
            rotate_left
            · intro w hSw; (try dsimp only at hSw); go_simp; (try with_reducible rfl)
            (try simp only [Act.put, List.getElem_toArray, List.getElem_cons_zero, List.getElem_cons_succ, List.setIfInBounds_toArray, List.set_cons_zero, List.set_cons_succ])
            clear hHeld
            refine wpAnyH_ready (rs := [11]) (by kernel_rfl) (by simp) ?_
            refine AllReadyH.cons rfl (fun K hK => ?_) ?_
            · have zz0 := Z16.cell 0
              have zz1 := Z16.cell 1
              have zz2 := Z16.cell 2
              have zz3 := Z16.cell 3
              have zf0 := Z16.frozen 0
              have zf1 := Z16.frozen 1
              have zf2 := Z16.frozen 2
              have zf3 := Z16.frozen 3
              go_simp
              have HB17 := ((((HB16.setCell (p := ⟨w_2.heap.size, 0, none⟩) hq13 (.int .i64 rL)).setCell (p := ⟨w_2.heap.size, 1, none⟩) hq13 (.int .i64 rT)).setCell (p := ⟨w_2.heap.size, 2, none⟩) hq13 (.int .i64 rY)).setCell (p := ⟨w_2.heap.size, 3, none⟩) hq13 (.slice Ar ys.length cr))
              have hne17 := row_ne' OF16.1 Z16 (by decide)
              have OF17 := ((((OF16.far (a := ⟨w_2.heap.size, 0, none⟩) hne17 (.int .i64 rL)).far (a := ⟨w_2.heap.size, 1, none⟩) hne17 (.int .i64 rT)).far (a := ⟨w_2.heap.size, 2, none⟩) hne17 (.int .i64 rY)).far (a := ⟨w_2.heap.size, 3, none⟩) hne17 (.slice Ar ys.length cr))
              have Z17 : Blk _ _ _ #[.int .i64 rL, .int .i64 rT, .int .i64 rY, .slice Ar ys.length cr] := Z16.put4t
              clear zz0 zz1 zz2 zz3 zf0 zf1 zf2 zf3
              refine hK.out _ _ (by exact ⟨cells_of HB17 ea10 za1, cells_of HB17 ea11 za1, cells_of HB17 ea12 za1, cells_of HB17 ea13 za1⟩) (fun hHeld => ?_)
              clear hK K
              (try simp only [Act.put, List.getElem_toArray, List.getElem_cons_zero, List.getElem_cons_succ, List.setIfInBounds_toArray, List.set_cons_zero, List.set_cons_succ])
              refine wpAnyH_take (i := 12) (v := ?_) rfl (by kernel_rfl) (by kernel_rfl) (by kernel_rfl) (fun _ _ _ h => h) (Or.inl ⟨by rfl, ?_⟩) (by assumption) ?_
              rotate_left
              · intro w hSw; (try dsimp only at hSw); go_simp; (try with_reducible rfl)
              (try simp only [Act.put, List.getElem_toArray, List.getElem_cons_zero, List.getElem_cons_succ, List.setIfInBounds_toArray, List.set_cons_zero, List.set_cons_succ])
              clear hHeld
              refine wpAnyH_done (by kernel_rfl) ?_ _
              refine NoPanic.normal ?_
              go_wp2_with fail
              go_meet
              exact ⟨w_2.heap.size, Ar, cr, rfl, rfl, hq13, Z17.box, OF17, HB17⟩
            exact AllReadyH.nil
          exact AllReadyH.nil
        exact AllReadyH.nil
      exact AllReadyH.nil
    exact AllReadyH.nil
  case rest =>
    obtain ⟨q3, A_3, c_3, rfl, rfl, hq3, Bw0, own, hb⟩ := hcut
    obtain ⟨w_3, hw⟩ : ∃ w_3, w_3 = wc := ⟨_, rfl⟩
    subst hw
    have hqq3 := Bw0.1
    replace Ba1 := Ba1.all hb
    replace R0 := R0.all hb hz
    replace R1 := R1.all hb hz
    replace HB := Lib.hid (HB.out.trans (hb.mono hz))
    have hsw_3 : w_2.heap.size ≤ w_3.heap.size := hb.size
    replace hz : w.heap.size ≤ w_3.heap.size := Nat.le_trans hz hsw_3
    clear hb za1 ea10 ea11 ea12 ea13
    have Ot3 := own; clear own
    have Obt3 := Lib.hid Ot3.bd
    have za1 := Ba1.1
    have ea10 := Ba1.2 0 _ rfl
    have ea11 := Ba1.2 1 _ rfl
    have ea12 := Ba1.2 2 _ rfl
    have ea13 := Ba1.2 3 _ rfl
    have zw0 := Bw0.1
    have ew00 := Bw0.2 0 _ rfl
    have ew01 := Bw0.2 1 _ rfl
    have ew02 := Bw0.2 2 _ rfl
    have ew03 := Bw0.2 3 _ rfl
    go_wp2_with fail
    refine (toDyePartS_any A0 _ c0 _ xs0 _ R0 (by first | omega | (simp; done) | (simp; omega)) hn0).mono ?_
    rintro e w_4 ⟨g4, rfl, own, hb⟩
    replace Ba1 := Ba1.all hb
    replace Bw0 := Bw0.all hb
    replace R0 := R0.all hb hz
    replace R1 := R1.all hb hz
    replace Ot3 := Ot3.all hb
    have hsw_4 : w_3.heap.size ≤ w_4.heap.size := hb.size
    replace HB := Lib.hid (HB.out.trans (hb.mono hz))
    replace hz : w.heap.size ≤ w_4.heap.size := by omega
    clear hb za1 ea10 ea11 ea12 ea13 zw0 ew00 ew01 ew02 ew03
    have Ot4 := own; clear own
    have Obt4 := Lib.hid Ot4.bd
    have za1 := Ba1.1
    have ea10 := Ba1.2 0 _ rfl
    have ea11 := Ba1.2 1 _ rfl
    have ea12 := Ba1.2 2 _ rfl
    have ea13 := Ba1.2 3 _ rfl
    have zw0 := Bw0.1
    have ew00 := Bw0.2 0 _ rfl
    have ew01 := Bw0.2 1 _ rfl
    have ew02 := Bw0.2 2 _ rfl
    have ew03 := Bw0.2 3 _ rfl
    go_wp2_with fail
    refine (toBath_any L1 T1 Y1 A1 _ c1 _ xs1 _ R1 (by first | omega | (simp; done) | (simp; omega)) hn1).mono ?_
    rintro e w_5 ⟨g5, rfl, own, hb⟩
    replace Ba1 := Ba1.all hb
    replace Bw0 := Bw0.all hb
    replace R0 := R0.all hb hz
    replace R1 := R1.all hb hz
    replace Ot3 := Ot3.all hb
    replace Ot4 := Ot4.all hb
    have hsw_5 : w_4.heap.size ≤ w_5.heap.size := hb.size
    replace HB := Lib.hid (HB.out.trans (hb.mono hz))
    replace hz : w.heap.size ≤ w_5.heap.size := by omega
    clear hb za1 ea10 ea11 ea12 ea13 zw0 ew00 ew01 ew02 ew03
    have Ot5 := own; clear own
    have Obt5 := Lib.hid Ot5.bd
    have za1 := Ba1.1
    have ea10 := Ba1.2 0 _ rfl
    have ea11 := Ba1.2 1 _ rfl
    have ea12 := Ba1.2 2 _ rfl
    have ea13 := Ba1.2 3 _ rfl
    have zw0 := Bw0.1
    have ew00 := Bw0.2 0 _ rfl
    have ew01 := Bw0.2 1 _ rfl
    have ew02 := Bw0.2 2 _ rfl
    have ew03 := Bw0.2 3 _ rfl
    go_wp2_with fail
    refine (himpl.out _ _ _ _ _ (Ot4.alloc _).rd (Ot5.alloc _).rd).mono ?_
    rintro e w_6 ⟨A_6, c_6, rfl, own, hb⟩
    have hb0 := hb
    replace hb := ((Below.refl w_5.heap.size w_5).alloc (by simp) _).trans (hb0.mono (by first | omega | (simp; done) | (simp; omega)))
    replace Ba1 := Ba1.all hb
    replace Bw0 := Bw0.all hb
    replace R0 := R0.all hb hz
    replace R1 := R1.all hb hz
    replace Ot3 := Ot3.all hb
    replace Ot4 := Ot4.all hb
    replace Ot5 := Ot5.all hb
    have Bx1 := (Box.new w_5 #[.int .i64 L1, .int .i64 T1, .int .i64 Y1, .slice (some ⟨g5, 0, none⟩) xs1.length xs1.length] 34).all hb0
    have hsw_6 : w_5.heap.size + 1 ≤ w_6.heap.size := by have := hb0.size; simp at this; omega
    replace own := own.mono (show w_5.heap.size + 1 ≤ _ by simp)
    clear hb0
    replace HB := Lib.hid (HB.out.trans (hb.mono hz))
    replace hz : w.heap.size ≤ w_6.heap.size := by omega
    clear hb za1 ea10 ea11 ea12 ea13 zw0 ew00 ew01 ew02 ew03
    have Ot6 := own; clear own
    have Obt6 := Lib.hid Ot6.bd
    have za1 := Ba1.1
    have ea10 := Ba1.2 0 _ rfl
    have ea11 := Ba1.2 1 _ rfl
    have ea12 := Ba1.2 2 _ rfl
    have ea13 := Ba1.2 3 _ rfl
    have zw0 := Bw0.1
    have ew00 := Bw0.2 0 _ rfl
    have ew01 := Bw0.2 1 _ rfl
    have ew02 := Bw0.2 2 _ rfl
    have ew03 := Bw0.2 3 _ rfl
    have zx1 := Bx1.1
    have ex10 := Bx1.2 0 _ rfl
    have ex11 := Bx1.2 1 _ rfl
    have ex12 := Bx1.2 2 _ rfl
    have ex13 := Bx1.2 3 _ rfl
    go_wp2_with fail
    refine (eqBath_same rL rT rY _ _ _ _ _ _ _ _ ys _ (Ot6.alloc _).rd (Ot3.alloc _).rd (Nat.le_refl _) (Nat.le_refl _)).mono ?_
    rintro e w_7 ⟨rfl, hb⟩
    have hb0 := hb
    replace hb := ((Below.refl w_6.heap.size w_6).alloc (by simp) _).trans (hb0.mono (by first | omega | (simp; done) | (simp; omega)))
    replace Ba1 := Ba1.all hb
    replace Bw0 := Bw0.all hb
    replace Bx1 := Bx1.all hb
    replace R0 := R0.all hb hz
    replace R1 := R1.all hb hz
    replace Ot3 := Ot3.all hb
    replace Ot4 := Ot4.all hb
    replace Ot5 := Ot5.all hb
    replace Ot6 := Ot6.all hb
    have Bg0 := (Box.new w_6 #[.int .i64 rL, .int .i64 rT, .int .i64 rY, .slice A_6 ys.length c_6] 34).all hb0
    have hsw_7 : w_6.heap.size + 1 ≤ w_7.heap.size := by have := hb0.size; simp at this; omega
    clear hb0
    replace HB := Lib.hid (HB.out.trans (hb.mono hz))
    replace hz : w.heap.size ≤ w_7.heap.size := by omega
    clear hb za1 ea10 ea11 ea12 ea13 zw0 ew00 ew01 ew02 ew03 zx1 ex10 ex11 ex12 ex13
    have za1 := Ba1.1
    have ea10 := Ba1.2 0 _ rfl
    have ea11 := Ba1.2 1 _ rfl
    have ea12 := Ba1.2 2 _ rfl
    have ea13 := Ba1.2 3 _ rfl
    have zw0 := Bw0.1
    have ew00 := Bw0.2 0 _ rfl
    have ew01 := Bw0.2 1 _ rfl
    have ew02 := Bw0.2 2 _ rfl
    have ew03 := Bw0.2 3 _ rfl
    have zx1 := Bx1.1
    have ex10 := Bx1.2 0 _ rfl
    have ex11 := Bx1.2 1 _ rfl
    have ex12 := Bx1.2 2 _ rfl
    have ex13 := Bx1.2 3 _ rfl
    have zg0 := Bg0.1
    have eg00 := Bg0.2 0 _ rfl
    have eg01 := Bg0.2 1 _ rfl
    have eg02 := Bg0.2 2 _ rfl
    have eg03 := Bg0.2 3 _ rfl
    go_wp2_with fail
    refine (toDyePartS_any A0 _ c0 _ xs0 _ R0 (by first | omega | (simp; done) | (simp; omega)) hn0).mono ?_
    rintro e w_8 ⟨g8, rfl, own, hb⟩
    replace Ba1 := Ba1.all hb
    replace Bw0 := Bw0.all hb
    replace Bx1 := Bx1.all hb
    replace Bg0 := Bg0.all hb
    replace R0 := R0.all hb hz
    replace R1 := R1.all hb hz
    replace Ot3 := Ot3.all hb
    replace Ot4 := Ot4.all hb
    replace Ot5 := Ot5.all hb
    replace Ot6 := Ot6.all hb
    have hsw_8 : w_7.heap.size ≤ w_8.heap.size := hb.size
    replace HB := Lib.hid (HB.out.trans (hb.mono hz))
    replace hz : w.heap.size ≤ w_8.heap.size := by omega
    clear hb za1 ea10 ea11 ea12 ea13 zw0 ew00 ew01 ew02 ew03 zx1 ex10 ex11 ex12 ex13 zg0 eg00 eg01 eg02 eg03
    have Ot8 := own; clear own
    have Obt8 := Lib.hid Ot8.bd
    have za1 := Ba1.1
    have ea10 := Ba1.2 0 _ rfl
    have ea11 := Ba1.2 1 _ rfl
    have ea12 := Ba1.2 2 _ rfl
    have ea13 := Ba1.2 3 _ rfl
    have zw0 := Bw0.1
    have ew00 := Bw0.2 0 _ rfl
    have ew01 := Bw0.2 1 _ rfl
    have ew02 := Bw0.2 2 _ rfl
    have ew03 := Bw0.2 3 _ rfl
    have zx1 := Bx1.1
    have ex10 := Bx1.2 0 _ rfl
    have ex11 := Bx1.2 1 _ rfl
    have ex12 := Bx1.2 2 _ rfl
    have ex13 := Bx1.2 3 _ rfl
    have zg0 := Bg0.1
    have eg00 := Bg0.2 0 _ rfl
    have eg01 := Bg0.2 1 _ rfl
    have eg02 := Bg0.2 2 _ rfl
    have eg03 := Bg0.2 3 _ rfl
    go_wp2_with fail
    refine (eqDyePartS_same _ _ _ _ _ _ _ _ xs0 _ Ot4.rd Ot8.rd (Nat.le_refl _) (Nat.le_refl _)).mono ?_
    rintro e w_9 ⟨rfl, hb⟩
    replace Ba1 := Ba1.all hb
    replace Bw0 := Bw0.all hb
    replace Bx1 := Bx1.all hb
    replace Bg0 := Bg0.all hb
    replace R0 := R0.all hb hz
    replace R1 := R1.all hb hz
    replace Ot3 := Ot3.all hb
    replace Ot4 := Ot4.all hb
    replace Ot5 := Ot5.all hb
    replace Ot6 := Ot6.all hb
    replace Ot8 := Ot8.all hb
    have hsw_9 : w_8.heap.size ≤ w_9.heap.size := hb.size
    replace HB := Lib.hid (HB.out.trans (hb.mono hz))
    replace hz : w.heap.size ≤ w_9.heap.size := by omega
    clear hb za1 ea10 ea11 ea12 ea13 zw0 ew00 ew01 ew02 ew03 zx1 ex10 ex11 ex12 ex13 zg0 eg00 eg01 eg02 eg03
    clear Ot8 Obt8
    have za1 := Ba1.1
    have ea10 := Ba1.2 0 _ rfl
    have ea11 := Ba1.2 1 _ rfl
    have ea12 := Ba1.2 2 _ rfl
    have ea13 := Ba1.2 3 _ rfl
    have zw0 := Bw0.1
    have ew00 := Bw0.2 0 _ rfl
    have ew01 := Bw0.2 1 _ rfl
    have ew02 := Bw0.2 2 _ rfl
    have ew03 := Bw0.2 3 _ rfl
    have zx1 := Bx1.1
    have ex10 := Bx1.2 0 _ rfl
    have ex11 := Bx1.2 1 _ rfl
    have ex12 := Bx1.2 2 _ rfl
    have ex13 := Bx1.2 3 _ rfl
    have zg0 := Bg0.1
    have eg00 := Bg0.2 0 _ rfl
    have eg01 := Bg0.2 1 _ rfl
    have eg02 := Bg0.2 2 _ rfl
    have eg03 := Bg0.2 3 _ rfl
    go_wp2_with fail
    go_region_held3 (fun w' => w'.cell? ⟨w.heap.size, 0, none⟩ = some (.int .i64 L1) ∧ w'.cell? ⟨w.heap.size, 1, none⟩ = some (.int .i64 T1) ∧ w'.cell? ⟨w.heap.size, 2, none⟩ = some (.int .i64 Y1) ∧ w'.cell? ⟨w.heap.size, 3, none⟩ = some (.slice A1 xs1.length c1) ∧ w'.cell? ⟨w_5.heap.size, 0, none⟩ = some (.int .i64 L1) ∧ w'.cell? ⟨w_5.heap.size, 1, none⟩ = some (.int .i64 T1) ∧ w'.cell? ⟨w_5.heap.size, 2, none⟩ = some (.int .i64 Y1) ∧ w'.cell? ⟨w_5.heap.size, 3, none⟩ = some (.slice (some ⟨g5, 0, none⟩) xs1.length xs1.length)) (first | exact ⟨ea10, ea11, ea12, ea13, ex10, ex11, ex12, ex13⟩ | exact ⟨(hbc _ _ (by omega)).trans ea10, (hbc _ _ (by omega)).trans ea11, (hbc _ _ (by omega)).trans ea12, (hbc _ _ (by omega)).trans ea13, (hbc _ _ (by omega)).trans ex10, (hbc _ _ (by omega)).trans ex11, (hbc _ _ (by omega)).trans ex12, (hbc _ _ (by omega)).trans ex13⟩ | exact ⟨(hbd _ _ (by omega)).trans ((hbc _ _ (by omega)).trans ea10), (hbd _ _ (by omega)).trans ((hbc _ _ (by omega)).trans ea11), (hbd _ _ (by omega)).trans ((hbc _ _ (by omega)).trans ea12), (hbd _ _ (by omega)).trans ((hbc _ _ (by omega)).trans ea13), (hbd _ _ (by omega)).trans ((hbc _ _ (by omega)).trans ex10), (hbd _ _ (by omega)).trans ((hbc _ _ (by omega)).trans ex11), (hbd _ _ (by omega)).trans ((hbc _ _ (by omega)).trans ex12), (hbd _ _ (by omega)).trans ((hbc _ _ (by omega)).trans ex13)⟩) (first | (go_at_call 18; refine (toBath_any L1 T1 Y1 A1 _ c1 _ xs1 _ R1.drew (by first | omega | (simp; done) | (simp; omega)) hn1).mono ?_; rintro e wa ⟨g2, rfl, hown, hb⟩; have hb6 : Below w_9.heap.size w_9 wa := below_drew hb; have hbc : ∀ b o, b < w_9.heap.size → wa.cell? ⟨b, o, none⟩ = w_9.cell? ⟨b, o, none⟩ := (bcell hb6).1; have hz6 : w_9.heap.size ≤ wa.heap.size := hb6.size; have HS6 := Ot5.rd.all hb6 (Nat.le_refl _)) | (go_at_call 20; refine (eqBath_same L1 T1 Y1 _ _ _ _ _ _ _ _ xs1 _ HS6 hown.rd (by omega) (Nat.le_refl _)).mono ?_; rintro e wb ⟨rfl, hb7⟩; have hbd : ∀ b o, b < wa.heap.size → wb.cell? ⟨b, o, none⟩ = wa.cell? ⟨b, o, none⟩ := (bcell hb7).1))
    obtain ⟨w_10, hw⟩ : ∃ w_10, w_10 = wb := ⟨_, rfl⟩
    subst hw
    have hb := hb6.trans (hb7.mono (by omega))
    clear hbd hbc HS6 hown hb6 hb7 hz6
    replace Ba1 := Ba1.all hb
    replace Bw0 := Bw0.all hb
    replace Bx1 := Bx1.all hb
    replace Bg0 := Bg0.all hb
    replace R0 := R0.all hb hz
    replace R1 := R1.all hb hz
    replace Ot3 := Ot3.all hb
    replace Ot4 := Ot4.all hb
    replace Ot5 := Ot5.all hb
    replace Ot6 := Ot6.all hb
    replace HB := Lib.hid (HB.out.trans (hb.mono hz))
    have hsw_10 : w_9.heap.size ≤ w_10.heap.size := hb.size
    replace hz : w.heap.size ≤ w_10.heap.size := Nat.le_trans hz hsw_10
    clear hb za1 ea10 ea11 ea12 ea13 zw0 ew00 ew01 ew02 ew03 zx1 ex10 ex11 ex12 ex13 zg0 eg00 eg01 eg02 eg03
    have za1 := Ba1.1
    have ea10 := Ba1.2 0 _ rfl
    have ea11 := Ba1.2 1 _ rfl
    have ea12 := Ba1.2 2 _ rfl
    have ea13 := Ba1.2 3 _ rfl
    have zw0 := Bw0.1
    have ew00 := Bw0.2 0 _ rfl
    have ew01 := Bw0.2 1 _ rfl
    have ew02 := Bw0.2 2 _ rfl
    have ew03 := Bw0.2 3 _ rfl
    have zx1 := Bx1.1
    have ex10 := Bx1.2 0 _ rfl
    have ex11 := Bx1.2 1 _ rfl
    have ex12 := Bx1.2 2 _ rfl
    have ex13 := Bx1.2 3 _ rfl
    have zg0 := Bg0.1
    have eg00 := Bg0.2 0 _ rfl
    have eg01 := Bg0.2 1 _ rfl
    have eg02 := Bg0.2 2 _ rfl
    have eg03 := Bg0.2 3 _ rfl
    go_wp2_with fail
    refine (markDyePartS_any _ _ _ _ _ Ot4 hn0 (by omega) (by omega)).mono ?_
    rintro e w_11 ⟨rfl, own, hg⟩
    have zb := Ba1.1; replace Ba1 := Ba1.mark hg (fun k hk => by have := Obt4.out k hk; omega); clear zb
    have zb := Bw0.1; replace Bw0 := Bw0.mark hg (fun k hk => by have := Obt4.out k hk; omega); clear zb
    have zb := Bx1.1; replace Bx1 := Bx1.mark hg (fun k hk => by have := Obt4.out k hk; omega); clear zb
    have zb := Bg0.1; replace Bg0 := Bg0.mark hg (fun k hk => by have := Obt4.out k hk; omega); clear zb
    replace R0 := R0.mark hg (fun k hk => by have := Obt4.out k hk; omega) hz
    replace R1 := R1.mark hg (fun k hk => by have := Obt4.out k hk; omega) hz
    replace Ot3 := Ot3.mark hg (fun k k' hk hk' => by have := Obt4.out k hk; have := Obt3.out k' hk'; omega)
    replace Ot5 := Ot5.mark hg (fun k k' hk hk' => by have := Obt4.out k hk; have := Obt5.out k' hk'; omega)
    replace Ot6 := Ot6.mark hg (fun k k' hk hk' => by have := Obt4.out k hk; have := Obt6.out k' hk'; omega)
    replace Ot4 := own; clear own
    replace HB := Lib.hid (HB.out.grown hg hz (fun k hk => by have := Obt4.out k hk; omega))
    have hsw_11 : w_10.heap.size ≤ w_11.heap.size := hg.size
    replace hz : w.heap.size ≤ w_11.heap.size := Nat.le_trans hz hsw_11
    clear hg za1 ea10 ea11 ea12 ea13 zw0 ew00 ew01 ew02 ew03 zx1 ex10 ex11 ex12 ex13 zg0 eg00 eg01 eg02 eg03
    have za1 := Ba1.1
    have ea10 := Ba1.2 0 _ rfl
    have ea11 := Ba1.2 1 _ rfl
    have ea12 := Ba1.2 2 _ rfl
    have ea13 := Ba1.2 3 _ rfl
    have zw0 := Bw0.1
    have ew00 := Bw0.2 0 _ rfl
    have ew01 := Bw0.2 1 _ rfl
    have ew02 := Bw0.2 2 _ rfl
    have ew03 := Bw0.2 3 _ rfl
    have zx1 := Bx1.1
    have ex10 := Bx1.2 0 _ rfl
    have ex11 := Bx1.2 1 _ rfl
    have ex12 := Bx1.2 2 _ rfl
    have ex13 := Bx1.2 3 _ rfl
    have zg0 := Bg0.1
    have eg00 := Bg0.2 0 _ rfl
    have eg01 := Bg0.2 1 _ rfl
    have eg02 := Bg0.2 2 _ rfl
    have eg03 := Bg0.2 3 _ rfl
    go_wp2_with fail
    refine (markBath_any L1 T1 Y1 _ _ _ _ _ Ot5 hn1 (by omega) (by omega)).mono ?_
    rintro e w_12 ⟨rfl, own, hg⟩
    have zb := Ba1.1; replace Ba1 := Ba1.mark hg (fun k hk => by have := Obt5.out k hk; omega); clear zb
    have zb := Bw0.1; replace Bw0 := Bw0.mark hg (fun k hk => by have := Obt5.out k hk; omega); clear zb
    have zb := Bx1.1; replace Bx1 := Bx1.mark hg (fun k hk => by have := Obt5.out k hk; omega); clear zb
    have zb := Bg0.1; replace Bg0 := Bg0.mark hg (fun k hk => by have := Obt5.out k hk; omega); clear zb
    replace R0 := R0.mark hg (fun k hk => by have := Obt5.out k hk; omega) hz
    replace R1 := R1.mark hg (fun k hk => by have := Obt5.out k hk; omega) hz
    replace Ot3 := Ot3.mark hg (fun k k' hk hk' => by have := Obt5.out k hk; have := Obt3.out k' hk'; omega)
    replace Ot4 := Ot4.mark hg (fun k k' hk hk' => by have := Obt5.out k hk; have := Obt4.out k' hk'; omega)
    replace Ot6 := Ot6.mark hg (fun k k' hk hk' => by have := Obt5.out k hk; have := Obt6.out k' hk'; omega)
    replace Ot5 := own; clear own
    replace HB := Lib.hid (HB.out.grown hg hz (fun k hk => by have := Obt5.out k hk; omega))
    have hsw_12 : w_11.heap.size ≤ w_12.heap.size := hg.size
    replace hz : w.heap.size ≤ w_12.heap.size := Nat.le_trans hz hsw_12
    clear hg za1 ea10 ea11 ea12 ea13 zw0 ew00 ew01 ew02 ew03 zx1 ex10 ex11 ex12 ex13 zg0 eg00 eg01 eg02 eg03
    have za1 := Ba1.1
    have ea10 := Ba1.2 0 _ rfl
    have ea11 := Ba1.2 1 _ rfl
    have ea12 := Ba1.2 2 _ rfl
    have ea13 := Ba1.2 3 _ rfl
    have zw0 := Bw0.1
    have ew00 := Bw0.2 0 _ rfl
    have ew01 := Bw0.2 1 _ rfl
    have ew02 := Bw0.2 2 _ rfl
    have ew03 := Bw0.2 3 _ rfl
    have zx1 := Bx1.1
    have ex10 := Bx1.2 0 _ rfl
    have ex11 := Bx1.2 1 _ rfl
    have ex12 := Bx1.2 2 _ rfl
    have ex13 := Bx1.2 3 _ rfl
    have zg0 := Bg0.1
    have eg00 := Bg0.2 0 _ rfl
    have eg01 := Bg0.2 1 _ rfl
    have eg02 := Bg0.2 2 _ rfl
    have eg03 := Bg0.2 3 _ rfl
    go_wp2_with fail
    refine (eqBath_same rL rT rY _ _ _ _ _ _ _ _ ys _ Ot6.rd Ot3.rd (Nat.le_refl _) (Nat.le_refl _)).mono ?_
    rintro e w_13 ⟨rfl, hb⟩
    replace Ba1 := Ba1.all hb
    replace Bw0 := Bw0.all hb
    replace Bx1 := Bx1.all hb
    replace Bg0 := Bg0.all hb
    replace R0 := R0.all hb hz
    replace R1 := R1.all hb hz
    replace Ot3 := Ot3.all hb
    replace Ot4 := Ot4.all hb
    replace Ot5 := Ot5.all hb
    replace Ot6 := Ot6.all hb
    have hsw_13 : w_12.heap.size ≤ w_13.heap.size := hb.size
    replace HB := Lib.hid (HB.out.trans (hb.mono hz))
    replace hz : w.heap.size ≤ w_13.heap.size := by omega
    clear hb za1 ea10 ea11 ea12 ea13 zw0 ew00 ew01 ew02 ew03 zx1 ex10 ex11 ex12 ex13 zg0 eg00 eg01 eg02 eg03
    have za1 := Ba1.1
    have ea10 := Ba1.2 0 _ rfl
    have ea11 := Ba1.2 1 _ rfl
    have ea12 := Ba1.2 2 _ rfl
    have ea13 := Ba1.2 3 _ rfl
    have zw0 := Bw0.1
    have ew00 := Bw0.2 0 _ rfl
    have ew01 := Bw0.2 1 _ rfl
    have ew02 := Bw0.2 2 _ rfl
    have ew03 := Bw0.2 3 _ rfl
    have zx1 := Bx1.1
    have ex10 := Bx1.2 0 _ rfl
    have ex11 := Bx1.2 1 _ rfl
    have ex12 := Bx1.2 2 _ rfl
    have ex13 := Bx1.2 3 _ rfl
    have zg0 := Bg0.1
    have eg00 := Bg0.2 0 _ rfl
    have eg01 := Bg0.2 1 _ rfl
    have eg02 := Bg0.2 2 _ rfl
    have eg03 := Bg0.2 3 _ rfl
    go_wp2_with fail
    refine (markBath_any rL rT rY _ _ _ _ _ Ot6 hl (by omega) (by omega)).mono ?_
    rintro e w_14 ⟨rfl, own, hg⟩
    have zb := Ba1.1; replace Ba1 := Ba1.mark hg (fun k hk => by have := Obt6.out k hk; omega); clear zb
    have zb := Bw0.1; replace Bw0 := Bw0.mark hg (fun k hk => by have := Obt6.out k hk; omega); clear zb
    have zb := Bx1.1; replace Bx1 := Bx1.mark hg (fun k hk => by have := Obt6.out k hk; omega); clear zb
    have zb := Bg0.1; replace Bg0 := Bg0.mark hg (fun k hk => by have := Obt6.out k hk; omega); clear zb
    replace R0 := R0.mark hg (fun k hk => by have := Obt6.out k hk; omega) hz
    replace R1 := R1.mark hg (fun k hk => by have := Obt6.out k hk; omega) hz
    replace Ot3 := Ot3.mark hg (fun k k' hk hk' => by have := Obt6.out k hk; have := Obt3.out k' hk'; omega)
    replace Ot4 := Ot4.mark hg (fun k k' hk hk' => by have := Obt6.out k hk; have := Obt4.out k' hk'; omega)
    replace Ot5 := Ot5.mark hg (fun k k' hk hk' => by have := Obt6.out k hk; have := Obt5.out k' hk'; omega)
    replace Ot6 := own; clear own
    replace HB := Lib.hid (HB.out.grown hg hz (fun k hk => by have := Obt6.out k hk; omega))
    have hsw_14 : w_13.heap.size ≤ w_14.heap.size := hg.size
    replace hz : w.heap.size ≤ w_14.heap.size := Nat.le_trans hz hsw_14
    clear hg za1 ea10 ea11 ea12 ea13 zw0 ew00 ew01 ew02 ew03 zx1 ex10 ex11 ex12 ex13 zg0 eg00 eg01 eg02 eg03
    have za1 := Ba1.1
    have ea10 := Ba1.2 0 _ rfl
    have ea11 := Ba1.2 1 _ rfl
    have ea12 := Ba1.2 2 _ rfl
    have ea13 := Ba1.2 3 _ rfl
    have zw0 := Bw0.1
    have ew00 := Bw0.2 0 _ rfl
    have ew01 := Bw0.2 1 _ rfl
    have ew02 := Bw0.2 2 _ rfl
    have ew03 := Bw0.2 3 _ rfl
    have zx1 := Bx1.1
    have ex10 := Bx1.2 0 _ rfl
    have ex11 := Bx1.2 1 _ rfl
    have ex12 := Bx1.2 2 _ rfl
    have ex13 := Bx1.2 3 _ rfl
    have zg0 := Bg0.1
    have eg00 := Bg0.2 0 _ rfl
    have eg01 := Bg0.2 1 _ rfl
    have eg02 := Bg0.2 2 _ rfl
    have eg03 := Bg0.2 3 _ rfl
    go_wp2_with fail
    refine (heldBath_any rL rT rY _ _ _ _ _ _ Ot6.rd (Nat.le_refl _) hl (by omega) (by omega)).mono ?_
    rintro e w_15 ⟨rfl, hb⟩
    replace Ba1 := Ba1.all hb
    replace Bw0 := Bw0.all hb
    replace Bx1 := Bx1.all hb
    replace Bg0 := Bg0.all hb
    replace R0 := R0.all hb hz
    replace R1 := R1.all hb hz
    replace Ot3 := Ot3.all hb
    replace Ot4 := Ot4.all hb
    replace Ot5 := Ot5.all hb
    replace Ot6 := Ot6.all hb
    have hsw_15 : w_14.heap.size ≤ w_15.heap.size := hb.size
    replace HB := Lib.hid (HB.out.trans (hb.mono hz))
    replace hz : w.heap.size ≤ w_15.heap.size := by omega
    clear hb za1 ea10 ea11 ea12 ea13 zw0 ew00 ew01 ew02 ew03 zx1 ex10 ex11 ex12 ex13 zg0 eg00 eg01 eg02 eg03
    have za1 := Ba1.1
    have ea10 := Ba1.2 0 _ rfl
    have ea11 := Ba1.2 1 _ rfl
    have ea12 := Ba1.2 2 _ rfl
    have ea13 := Ba1.2 3 _ rfl
    have zw0 := Bw0.1
    have ew00 := Bw0.2 0 _ rfl
    have ew01 := Bw0.2 1 _ rfl
    have ew02 := Bw0.2 2 _ rfl
    have ew03 := Bw0.2 3 _ rfl
    have zx1 := Bx1.1
    have ex10 := Bx1.2 0 _ rfl
    have ex11 := Bx1.2 1 _ rfl
    have ex12 := Bx1.2 2 _ rfl
    have ex13 := Bx1.2 3 _ rfl
    have zg0 := Bg0.1
    have eg00 := Bg0.2 0 _ rfl
    have eg01 := Bg0.2 1 _ rfl
    have eg02 := Bg0.2 2 _ rfl
    have eg03 := Bg0.2 3 _ rfl
    go_wp2_with fail
    go_cut [19, 20] (fun sp sk wx => ∃ (q : Nat) (A : Option Addr) (c : Nat), sp = .pointer (some ⟨q, 0, none⟩) ∧ sk = .bool ok ∧ w_15.heap.size ≤ q ∧ Box wx q [.int .i64 rL, .int .i64 rT, .int .i64 rY, .slice A ys.length c] ∧ Own wx w_15.heap.size (.slice A ys.length c) ys ∧ Below w_15.heap.size w_15 wx)
    case first =>
      refine wp_region_noPanic ?_
      refine wp_region_held_drew (S := (fun w' => w'.cell? ⟨w.heap.size, 0, none⟩ = some (.int .i64 L1) ∧ w'.cell? ⟨w.heap.size, 1, none⟩ = some (.int .i64 T1) ∧ w'.cell? ⟨w.heap.size, 2, none⟩ = some (.int .i64 Y1) ∧ w'.cell? ⟨w.heap.size, 3, none⟩ = some (.slice A1 xs1.length c1))) (by kernel_rfl) (by go_keep) (fun hHeld => ?_)
      refine wpAnyH_take (i := 0) (v := ?_) rfl (by kernel_rfl) (by kernel_rfl) (by kernel_rfl) (fun _ _ _ h => h) (Or.inl ⟨by rfl, ?_⟩) (by assumption) ?_
      rotate_left
      · intro w hSw; (try dsimp only at hSw); go_simp; (try with_reducible rfl)
      (try simp only [Act.put, List.getElem_toArray, List.getElem_cons_zero, List.setIfInBounds_toArray, List.set_cons_zero, List.set_cons_succ])
      refine wpAnyH_take (i := 2) (v := ?_) rfl (by kernel_rfl) (by kernel_rfl) (by kernel_rfl) (fun _ _ _ h => h) (Or.inl ⟨by rfl, ?_⟩) (by assumption) ?_
      rotate_left
      · intro w hSw; (try dsimp only at hSw); go_simp; (try with_reducible rfl)
      (try simp only [Act.put, List.getElem_toArray, List.getElem_cons_zero, List.getElem_cons_succ, List.setIfInBounds_toArray, List.set_cons_zero, List.set_cons_succ])
      refine wpAnyH_take (i := 4) (v := ?_) rfl (by kernel_rfl) (by kernel_rfl) (by kernel_rfl) (fun _ _ _ h => h) (Or.inl ⟨by rfl, ?_⟩) (by assumption) ?_
      rotate_left
      · intro w hSw; (try dsimp only at hSw); go_simp; (try with_reducible rfl)
      (try simp only [Act.put, List.getElem_toArray, List.getElem_cons_zero, List.getElem_cons_succ, List.setIfInBounds_toArray, List.set_cons_zero, List.set_cons_succ])
      refine wpAnyH_take (i := 5) (v := ?_) rfl (by kernel_rfl) (by kernel_rfl) (by kernel_rfl) (fun _ _ _ h => h) (Or.inl ⟨by rfl, ?_⟩) (by assumption) ?_
      rotate_left
      · intro w hSw; (try dsimp only at hSw); go_simp; (try with_reducible rfl)
      (try simp only [Act.put, List.getElem_toArray, List.getElem_cons_zero, List.getElem_cons_succ, List.setIfInBounds_toArray, List.set_cons_zero, List.set_cons_succ])
      have HB0 := belowD (Below.refl w_15.heap.size w_15)
      clear hHeld
      refine wpAnyH_ready (rs := [1, 10]) (by kernel_rfl) (by simp) ?_
      refine AllReadyH.cons rfl (fun K hK => ?_) ?_
      · go_simp
        refine (toDyePartS_any A0 _ c0 w.heap.size xs0 _ (R0.below HB0 hz) (Nat.le_trans hz HB0.size) hn0).mono ?_
        rintro e wq1 ⟨gd0, rfl, own, hb⟩
        have HB1 := HB0.trans (hb.mono HB0.size)
        have O1_0 := own.mono HB0.size
        clear own hb
        refine hK.out _ _ (by exact ⟨cells_of HB1 ea10 za1, cells_of HB1 ea11 za1, cells_of HB1 ea12 za1, cells_of HB1 ea13 za1⟩) (fun hHeld => ?_)
        clear hK K hHeld
        (try simp only [Act.put, List.getElem_toArray, List.getElem_cons_zero, List.getElem_cons_succ, List.setIfInBounds_toArray, List.set_cons_zero, List.set_cons_succ])
        refine wpAnyH_ready (rs := [3, 10]) (by kernel_rfl) (by simp) ?_
        refine AllReadyH.cons rfl (fun K hK => ?_) ?_
        · go_simp
          refine (toBath_any L1 T1 Y1 A1 _ c1 w.heap.size xs1 _ (R1.below HB1 hz) (Nat.le_trans hz HB1.size) hn1).mono ?_
          rintro e wq2 ⟨gd1, rfl, own, hb⟩
          have HB2 := HB1.trans (hb.mono HB1.size)
          have O2_0 := O1_0.all hb
          have O2_1 := own.mono HB1.size
          clear own hb
          refine hK.out _ _ (by exact ⟨cells_of HB2 ea10 za1, cells_of HB2 ea11 za1, cells_of HB2 ea12 za1, cells_of HB2 ea13 za1⟩) (fun hHeld => ?_)
          clear hK K hHeld
          (try simp only [Act.put, List.getElem_toArray, List.getElem_cons_zero, List.getElem_cons_succ, List.setIfInBounds_toArray, List.set_cons_zero, List.set_cons_succ])
          refine wpAnyH_ready (rs := [6, 10]) (by kernel_rfl) (by simp) ?_
          refine AllReadyH.cons rfl (fun K hK => ?_) ?_
          · go_simp
            refine (himpl.out _ _ _ _ _ O2_0.rd O2_1.rd).mono ?_
            rintro e wq3 ⟨Ar, cr, rfl, own, hb⟩
            have HB3 := HB2.trans (hb.mono HB2.size)
            have OF3 := own.mono HB2.size
            clear hb
            refine hK.out _ _ (by exact ⟨cells_of HB3 ea10 za1, cells_of HB3 ea11 za1, cells_of HB3 ea12 za1, cells_of HB3 ea13 za1⟩) (fun hHeld => ?_)
            clear hK K
            (try simp only [Act.put, List.getElem_toArray, List.getElem_cons_zero, List.getElem_cons_succ, List.setIfInBounds_toArray, List.set_cons_zero, List.set_cons_succ])
            refine wpAnyH_take (i := 7) (v := ?_) rfl (by kernel_rfl) (by kernel_rfl) (by kernel_rfl) (fun _ _ _ h => h) (Or.inl ⟨by rfl, ?_⟩) (by assumption) ?_
            rotate_left
            · intro w hSw; (try dsimp only at hSw); go_simp; (try with_reducible rfl)
            (try simp only [Act.put, List.getElem_toArray, List.getElem_cons_zero, List.getElem_cons_succ, List.setIfInBounds_toArray, List.set_cons_zero, List.set_cons_succ])
            refine wpAnyH_take (i := 8) (v := ?_) rfl (by kernel_rfl) (by kernel_rfl) (by kernel_rfl) (fun _ _ _ h => h) (Or.inl ⟨by rfl, ?_⟩) (by assumption) ?_
            rotate_left
            · intro w hSw; (try dsimp only at hSw); go_simp; (try with_reducible rfl)
            (try simp only [Act.put, List.getElem_toArray, List.getElem_cons_zero, List.getElem_cons_succ, List.setIfInBounds_toArray, List.set_cons_zero, List.set_cons_succ])
            refine wpAnyH_take (i := 9) (v := ?_) rfl (by kernel_rfl) (by kernel_rfl) (by kernel_rfl) (fun _ _ _ h => h) (Or.inl ⟨by rfl, ?_⟩) (by assumption) ?_
            rotate_left
            · intro w hSw; (try dsimp only at hSw); go_simp; (try with_reducible rfl)
            (try simp only [Act.put, List.getElem_toArray, List.getElem_cons_zero, List.getElem_cons_succ, List.setIfInBounds_toArray, List.set_cons_zero, List.set_cons_succ])
            clear hHeld
            refine wpAnyH_ready (rs := [10]) (by kernel_rfl) (by simp) ?_
            refine AllReadyH.cons rfl (fun K hK => ?_) ?_
            · go_simp
              have HB4 := HB3.alloc HB3.size (.cells #[.int .i64 0, .int .i64 0, .int .i64 0, .slice none 0 0] 34)
              have O4_0 := O2_0.alloc (.cells #[.int .i64 0, .int .i64 0, .int .i64 0, .slice none 0 0] 34)
              have O4_1 := O2_1.alloc (.cells #[.int .i64 0, .int .i64 0, .int .i64 0, .slice none 0 0] 34)
              have OF4 := OF3.alloc (.cells #[.int .i64 0, .int .i64 0, .int .i64 0, .slice none 0 0] 34)
              have Z4 : Blk _ wq3.heap.size _ _ := Blk.new wq3 #[.int .i64 0, .int .i64 0, .int .i64 0, .slice none 0 0] 34
              have hq4 : w_15.heap.size ≤ wq3.heap.size := HB3.size
              refine hK.out _ _ (by exact ⟨cells_of HB4 ea10 za1, cells_of HB4 ea11 za1, cells_of HB4 ea12 za1, cells_of HB4 ea13 za1⟩) (fun hHeld => ?_)
              clear hK K hHeld
              (try simp only [Act.put, List.getElem_toArray, List.getElem_cons_zero, List.getElem_cons_succ, List.setIfInBounds_toArray, List.set_cons_zero, List.set_cons_succ])
              refine wpAnyH_ready (rs := [11]) (by kernel_rfl) (by simp) ?_
              refine AllReadyH.cons rfl (fun K hK => ?_) ?_
              · go_simp
                have HB5 := HB3.alloc HB3.size (.cells #[.int .i64 rL, .int .i64 rT, .int .i64 rY, .slice Ar ys.length cr] 34)
                have OF5 := OF3.alloc (.cells #[.int .i64 rL, .int .i64 rT, .int .i64 rY, .slice Ar ys.length cr] 34)
                have Z5 := Blk.new wq3 #[.int .i64 rL, .int .i64 rT, .int .i64 rY, .slice Ar ys.length cr] 34
                refine hK.out _ _ (by exact ⟨cells_of HB5 ea10 za1, cells_of HB5 ea11 za1, cells_of HB5 ea12 za1, cells_of HB5 ea13 za1⟩) (fun hHeld => ?_)
                clear hK K
                (try simp only [Act.put, List.getElem_toArray, List.getElem_cons_zero, List.getElem_cons_succ, List.setIfInBounds_toArray, List.set_cons_zero, List.set_cons_succ])
                refine wpAnyH_take (i := 12) (v := ?_) rfl (by kernel_rfl) (by kernel_rfl) (by kernel_rfl) (fun _ _ _ h => h) (Or.inl ⟨by rfl, ?_⟩) (by assumption) ?_
                rotate_left
                · intro w hSw; (try dsimp only at hSw); go_simp; (try with_reducible rfl)
                (try simp only [Act.put, List.getElem_toArray, List.getElem_cons_zero, List.getElem_cons_succ, List.setIfInBounds_toArray, List.set_cons_zero, List.set_cons_succ])
                clear hHeld
                refine wpAnyH_done (by kernel_rfl) ?_ _
                refine NoPanic.normal ?_
                go_wp2_with fail
                go_meet
                exact ⟨wq3.heap.size, Ar, cr, rfl, rfl, hq4, Z5.box, OF5, HB5⟩
              exact AllReadyH.nil
            exact AllReadyH.nil
          refine AllReadyH.cons rfl (fun K hK => ?_) ?_
          · go_simp
            have HB6 := HB2.alloc HB2.size (.cells #[.int .i64 0, .int .i64 0, .int .i64 0, .slice none 0 0] 34)
            have O6_0 := O2_0.alloc (.cells #[.int .i64 0, .int .i64 0, .int .i64 0, .slice none 0 0] 34)
            have O6_1 := O2_1.alloc (.cells #[.int .i64 0, .int .i64 0, .int .i64 0, .slice none 0 0] 34)
            have Z6 : Blk _ wq2.heap.size _ _ := Blk.new wq2 #[.int .i64 0, .int .i64 0, .int .i64 0, .slice none 0 0] 34
            have hq6 : w_15.heap.size ≤ wq2.heap.size := HB2.size
            refine hK.out _ _ (by exact ⟨cells_of HB6 ea10 za1, cells_of HB6 ea11 za1, cells_of HB6 ea12 za1, cells_of HB6 ea13 za1⟩) (fun hHeld => ?_)
            clear hK K hHeld
            (try simp only [Act.put, List.getElem_toArray, List.getElem_cons_zero, List.getElem_cons_succ, List.setIfInBounds_toArray, List.set_cons_zero, List.set_cons_succ])
            refine wpAnyH_ready (rs := [6]) (by kernel_rfl) (by simp) ?_
            refine AllReadyH.cons rfl (fun K hK => ?_) ?_
            · go_simp
              refine (himpl.out _ _ _ _ _ O6_0.rd O6_1.rd).mono ?_
              rintro e wq7 ⟨Ar, cr, rfl, own, hb⟩
              have HB7 := HB6.trans (hb.mono HB6.size)
              have Z7 := Z6.all hb
              have OF7 := own.mono HB6.size
              clear hb
              refine hK.out _ _ (by exact ⟨cells_of HB7 ea10 za1, cells_of HB7 ea11 za1, cells_of HB7 ea12 za1, cells_of HB7 ea13 za1⟩) (fun hHeld => ?_)
              clear hK K
              (try simp only [Act.put, List.getElem_toArray, List.getElem_cons_zero, List.getElem_cons_succ, List.setIfInBounds_toArray, List.set_cons_zero, List.set_cons_succ])
              refine wpAnyH_take (i := 7) (v := ?_) rfl (by kernel_rfl) (by kernel_rfl) (by kernel_rfl) (fun _ _ _ h => h) (Or.inl ⟨by rfl, ?_⟩) (by assumption) ?_
              rotate_left
              · intro w hSw; (try dsimp only at hSw); go_simp; (try with_reducible rfl)
              (try simp only [Act.put, List.getElem_toArray, List.getElem_cons_zero, List.getElem_cons_succ, List.setIfInBounds_toArray, List.set_cons_zero, List.set_cons_succ])
              refine wpAnyH_take (i := 8) (v := ?_) rfl (by kernel_rfl) (by kernel_rfl) (by kernel_rfl) (fun _ _ _ h => h) (Or.inl ⟨by rfl, ?_⟩) (by assumption) ?_
              rotate_left
              · intro w hSw; (try dsimp only at hSw); go_simp; (try with_reducible rfl)
              (try simp only [Act.put, List.getElem_toArray, List.getElem_cons_zero, List.getElem_cons_succ, List.setIfInBounds_toArray, List.set_cons_zero, List.set_cons_succ])
              refine wpAnyH_take (i := 9) (v := ?_) rfl (by kernel_rfl) (by kernel_rfl) (by kernel_rfl) (fun _ _ _ h => h) (Or.inl ⟨by rfl, ?_⟩) (by assumption) ?_
              rotate_left
              · intro w hSw; (try dsimp only at hSw); go_simp; (try with_reducible rfl)
              (try simp only [Act.put, List.getElem_toArray, List.getElem_cons_zero, List.getElem_cons_succ, List.setIfInBounds_toArray, List.set_cons_zero, List.set_cons_succ])
              clear hHeld
              refine wpAnyH_ready (rs := [11]) (by kernel_rfl) (by simp) ?_
              refine AllReadyH.cons rfl (fun K hK => ?_) ?_
              · have zz0 := Z7.cell 0
                have zz1 := Z7.cell 1
                have zz2 := Z7.cell 2
                have zz3 := Z7.cell 3
                have zf0 := Z7.frozen 0
                have zf1 := Z7.frozen 1
                have zf2 := Z7.frozen 2
                have zf3 := Z7.frozen 3
                go_simp
                have HB8 := ((((HB7.setCell (p := ⟨wq2.heap.size, 0, none⟩) hq6 (.int .i64 rL)).setCell (p := ⟨wq2.heap.size, 1, none⟩) hq6 (.int .i64 rT)).setCell (p := ⟨wq2.heap.size, 2, none⟩) hq6 (.int .i64 rY)).setCell (p := ⟨wq2.heap.size, 3, none⟩) hq6 (.slice Ar ys.length cr))
                have hne8 := row_ne' OF7.1 Z7 (by decide)
                have OF8 := ((((OF7.far (a := ⟨wq2.heap.size, 0, none⟩) hne8 (.int .i64 rL)).far (a := ⟨wq2.heap.size, 1, none⟩) hne8 (.int .i64 rT)).far (a := ⟨wq2.heap.size, 2, none⟩) hne8 (.int .i64 rY)).far (a := ⟨wq2.heap.size, 3, none⟩) hne8 (.slice Ar ys.length cr))
                have Z8 : Blk _ _ _ #[.int .i64 rL, .int .i64 rT, .int .i64 rY, .slice Ar ys.length cr] := Z7.put4t
                clear zz0 zz1 zz2 zz3 zf0 zf1 zf2 zf3
                refine hK.out _ _ (by exact ⟨cells_of HB8 ea10 za1, cells_of HB8 ea11 za1, cells_of HB8 ea12 za1, cells_of HB8 ea13 za1⟩) (fun hHeld => ?_)
                clear hK K
                (try simp only [Act.put, List.getElem_toArray, List.getElem_cons_zero, List.getElem_cons_succ, List.setIfInBounds_toArray, List.set_cons_zero, List.set_cons_succ])
                refine wpAnyH_take (i := 12) (v := ?_) rfl (by kernel_rfl) (by kernel_rfl) (by kernel_rfl) (fun _ _ _ h => h) (Or.inl ⟨by rfl, ?_⟩) (by assumption) ?_
                rotate_left
                · intro w hSw; (try dsimp only at hSw); go_simp; (try with_reducible rfl)
                (try simp only [Act.put, List.getElem_toArray, List.getElem_cons_zero, List.getElem_cons_succ, List.setIfInBounds_toArray, List.set_cons_zero, List.set_cons_succ])
                clear hHeld
                refine wpAnyH_done (by kernel_rfl) ?_ _
                refine NoPanic.normal ?_
                go_wp2_with fail
                go_meet
                exact ⟨wq2.heap.size, Ar, cr, rfl, rfl, hq6, Z8.box, OF8, HB8⟩
              exact AllReadyH.nil
            exact AllReadyH.nil
          exact AllReadyH.nil
        refine AllReadyH.cons rfl (fun K hK => ?_) ?_
        · go_simp
          have HB9 := HB1.alloc HB1.size (.cells #[.int .i64 0, .int .i64 0, .int .i64 0, .slice none 0 0] 34)
          have O9_0 := O1_0.alloc (.cells #[.int .i64 0, .int .i64 0, .int .i64 0, .slice none 0 0] 34)
          have Z9 : Blk _ wq1.heap.size _ _ := Blk.new wq1 #[.int .i64 0, .int .i64 0, .int .i64 0, .slice none 0 0] 34
          have hq9 : w_15.heap.size ≤ wq1.heap.size := HB1.size
          refine hK.out _ _ (by exact ⟨cells_of HB9 ea10 za1, cells_of HB9 ea11 za1, cells_of HB9 ea12 za1, cells_of HB9 ea13 za1⟩) (fun hHeld => ?_)
          clear hK K hHeld
          (try simp only [Act.put, List.getElem_toArray, List.getElem_cons_zero, List.getElem_cons_succ, List.setIfInBounds_toArray, List.set_cons_zero, List.set_cons_succ])
          refine wpAnyH_ready (rs := [3]) (by kernel_rfl) (by simp) ?_
          refine AllReadyH.cons rfl (fun K hK => ?_) ?_
          · go_simp
            refine (toBath_any L1 T1 Y1 A1 _ c1 w.heap.size xs1 _ (R1.below HB9 hz) (Nat.le_trans hz HB9.size) hn1).mono ?_
            rintro e wq10 ⟨gd1, rfl, own, hb⟩
            have HB10 := HB9.trans (hb.mono HB9.size)
            have O10_0 := O9_0.all hb
            have O10_1 := own.mono HB9.size
            have Z10 := Z9.all hb
            clear own hb
            refine hK.out _ _ (by exact ⟨cells_of HB10 ea10 za1, cells_of HB10 ea11 za1, cells_of HB10 ea12 za1, cells_of HB10 ea13 za1⟩) (fun hHeld => ?_)
            clear hK K hHeld
            (try simp only [Act.put, List.getElem_toArray, List.getElem_cons_zero, List.getElem_cons_succ, List.setIfInBounds_toArray, List.set_cons_zero, List.set_cons_succ])
            refine wpAnyH_ready (rs := [6]) (by kernel_rfl) (by simp) ?_
            refine AllReadyH.cons rfl (fun K hK => ?_) ?_
            · go_simp
              refine (himpl.out _ _ _ _ _ O10_0.rd O10_1.rd).mono ?_
              rintro e wq11 ⟨Ar, cr, rfl, own, hb⟩
              have HB11 := HB10.trans (hb.mono HB10.size)
              have Z11 := Z10.all hb
              have OF11 := own.mono HB10.size
              clear hb
              refine hK.out _ _ (by exact ⟨cells_of HB11 ea10 za1, cells_of HB11 ea11 za1, cells_of HB11 ea12 za1, cells_of HB11 ea13 za1⟩) (fun hHeld => ?_)
              clear hK K
              (try simp only [Act.put, List.getElem_toArray, List.getElem_cons_zero, List.getElem_cons_succ, List.setIfInBounds_toArray, List.set_cons_zero, List.set_cons_succ])
              refine wpAnyH_take (i := 7) (v := ?_) rfl (by kernel_rfl) (by kernel_rfl) (by kernel_rfl) (fun _ _ _ h => h) (Or.inl ⟨by rfl, ?_⟩) (by assumption) ?_
              rotate_left
              · intro w hSw; (try dsimp only at hSw); go_simp; (try with_reducible rfl)
              (try simp only [Act.put, List.getElem_toArray, List.getElem_cons_zero, List.getElem_cons_succ, List.setIfInBounds_toArray, List.set_cons_zero, List.set_cons_succ])
              refine wpAnyH_take (i := 8) (v := ?_) rfl (by kernel_rfl) (by kernel_rfl) (by kernel_rfl) (fun _ _ _ h => h) (Or.inl ⟨by rfl, ?_⟩) (by assumption) ?_
              rotate_left
              · intro w hSw; (try dsimp only at hSw); go_simp; (try with_reducible rfl)
              (try simp only [Act.put, List.getElem_toArray, List.getElem_cons_zero, List.getElem_cons_succ, List.setIfInBounds_toArray, List.set_cons_zero, List.set_cons_succ])
              refine wpAnyH_take (i := 9) (v := ?_) rfl (by kernel_rfl) (by kernel_rfl) (by kernel_rfl) (fun _ _ _ h => h) (Or.inl ⟨by rfl, ?_⟩) (by assumption) ?_
              rotate_left
              · intro w hSw; (try dsimp only at hSw); go_simp; (try with_reducible rfl)
              (try simp only [Act.put, List.getElem_toArray, List.getElem_cons_zero, List.getElem_cons_succ, List.setIfInBounds_toArray, List.set_cons_zero, List.set_cons_succ])
              clear hHeld
              refine wpAnyH_ready (rs := [11]) (by kernel_rfl) (by simp) ?_
              refine AllReadyH.cons rfl (fun K hK => ?_) ?_
              · have zz0 := Z11.cell 0
                have zz1 := Z11.cell 1
                have zz2 := Z11.cell 2
                have zz3 := Z11.cell 3
                have zf0 := Z11.frozen 0
                have zf1 := Z11.frozen 1
                have zf2 := Z11.frozen 2
                have zf3 := Z11.frozen 3
                go_simp
                have HB12 := ((((HB11.setCell (p := ⟨wq1.heap.size, 0, none⟩) hq9 (.int .i64 rL)).setCell (p := ⟨wq1.heap.size, 1, none⟩) hq9 (.int .i64 rT)).setCell (p := ⟨wq1.heap.size, 2, none⟩) hq9 (.int .i64 rY)).setCell (p := ⟨wq1.heap.size, 3, none⟩) hq9 (.slice Ar ys.length cr))
                have hne12 := row_ne' OF11.1 Z11 (by decide)
                have OF12 := ((((OF11.far (a := ⟨wq1.heap.size, 0, none⟩) hne12 (.int .i64 rL)).far (a := ⟨wq1.heap.size, 1, none⟩) hne12 (.int .i64 rT)).far (a := ⟨wq1.heap.size, 2, none⟩) hne12 (.int .i64 rY)).far (a := ⟨wq1.heap.size, 3, none⟩) hne12 (.slice Ar ys.length cr))
                have Z12 : Blk _ _ _ #[.int .i64 rL, .int .i64 rT, .int .i64 rY, .slice Ar ys.length cr] := Z11.put4t
                clear zz0 zz1 zz2 zz3 zf0 zf1 zf2 zf3
                refine hK.out _ _ (by exact ⟨cells_of HB12 ea10 za1, cells_of HB12 ea11 za1, cells_of HB12 ea12 za1, cells_of HB12 ea13 za1⟩) (fun hHeld => ?_)
                clear hK K
                (try simp only [Act.put, List.getElem_toArray, List.getElem_cons_zero, List.getElem_cons_succ, List.setIfInBounds_toArray, List.set_cons_zero, List.set_cons_succ])
                refine wpAnyH_take (i := 12) (v := ?_) rfl (by kernel_rfl) (by kernel_rfl) (by kernel_rfl) (fun _ _ _ h => h) (Or.inl ⟨by rfl, ?_⟩) (by assumption) ?_
                rotate_left
                · intro w hSw; (try dsimp only at hSw); go_simp; (try with_reducible rfl)
                (try simp only [Act.put, List.getElem_toArray, List.getElem_cons_zero, List.getElem_cons_succ, List.setIfInBounds_toArray, List.set_cons_zero, List.set_cons_succ])
                clear hHeld
                refine wpAnyH_done (by kernel_rfl) ?_ _
                refine NoPanic.normal ?_
                go_wp2_with fail
                go_meet
                exact ⟨wq1.heap.size, Ar, cr, rfl, rfl, hq9, Z12.box, OF12, HB12⟩
              exact AllReadyH.nil
            exact AllReadyH.nil
          exact AllReadyH.nil
        exact AllReadyH.nil
      refine AllReadyH.cons rfl (fun K hK => ?_) ?_
      · go_simp
        have HB13 := HB0.alloc HB0.size (.cells #[.int .i64 0, .int .i64 0, .int .i64 0, .slice none 0 0] 34)
        have Z13 : Blk _ w_15.heap.size _ _ := Blk.new w_15.drew #[.int .i64 0, .int .i64 0, .int .i64 0, .slice none 0 0] 34
        have hq13 : w_15.heap.size ≤ w_15.heap.size := HB0.size
        refine hK.out _ _ (by exact ⟨cells_of HB13 ea10 za1, cells_of HB13 ea11 za1, cells_of HB13 ea12 za1, cells_of HB13 ea13 za1⟩) (fun hHeld => ?_)
        clear hK K hHeld
        (try simp only [Act.put, List.getElem_toArray, List.getElem_cons_zero, List.getElem_cons_succ, List.setIfInBounds_toArray, List.set_cons_zero, List.set_cons_succ])
        refine wpAnyH_ready (rs := [1]) (by kernel_rfl) (by simp) ?_
        refine AllReadyH.cons rfl (fun K hK => ?_) ?_
        · go_simp
          refine (toDyePartS_any A0 _ c0 w.heap.size xs0 _ (R0.below HB13 hz) (Nat.le_trans hz HB13.size) hn0).mono ?_
          rintro e wq14 ⟨gd0, rfl, own, hb⟩
          have HB14 := HB13.trans (hb.mono HB13.size)
          have O14_0 := own.mono HB13.size
          have Z14 := Z13.all hb
          clear own hb
          refine hK.out _ _ (by exact ⟨cells_of HB14 ea10 za1, cells_of HB14 ea11 za1, cells_of HB14 ea12 za1, cells_of HB14 ea13 za1⟩) (fun hHeld => ?_)
          clear hK K hHeld
          (try simp only [Act.put, List.getElem_toArray, List.getElem_cons_zero, List.getElem_cons_succ, List.setIfInBounds_toArray, List.set_cons_zero, List.set_cons_succ])
          refine wpAnyH_ready (rs := [3]) (by kernel_rfl) (by simp) ?_
          refine AllReadyH.cons rfl (fun K hK => ?_) ?_
          · go_simp
            refine (toBath_any L1 T1 Y1 A1 _ c1 w.heap.size xs1 _ (R1.below HB14 hz) (Nat.le_trans hz HB14.size) hn1).mono ?_
            rintro e wq15 ⟨gd1, rfl, own, hb⟩
            have HB15 := HB14.trans (hb.mono HB14.size)
            have O15_0 := O14_0.all hb
            have O15_1 := own.mono HB14.size
            have Z15 := Z14.all hb
            clear own hb
            refine hK.out _ _ (by exact ⟨cells_of HB15 ea10 za1, cells_of HB15 ea11 za1, cells_of HB15 ea12 za1, cells_of HB15 ea13 za1⟩) (fun hHeld => ?_)
            clear hK K hHeld
            (try simp only [Act.put, List.getElem_toArray, List.getElem_cons_zero, List.getElem_cons_succ, List.setIfInBounds_toArray, List.set_cons_zero, List.set_cons_succ])
            refine wpAnyH_ready (rs := [6]) (by kernel_rfl) (by simp) ?_
            refine AllReadyH.cons rfl (fun K hK => ?_) ?_
            · go_simp
              refine (himpl.out _ _ _ _ _ O15_0.rd O15_1.rd).mono ?_
              rintro e wq16 ⟨Ar, cr, rfl, own, hb⟩
              have HB16 := HB15.trans (hb.mono HB15.size)
              have Z16 := Z15.all hb
              have OF16 := own.mono HB15.size
              clear hb
              refine hK.out _ _ (by exact ⟨cells_of HB16 ea10 za1, cells_of HB16 ea11 za1, cells_of HB16 ea12 za1, cells_of HB16 ea13 za1⟩) (fun hHeld => ?_)
              clear hK K
              (try simp only [Act.put, List.getElem_toArray, List.getElem_cons_zero, List.getElem_cons_succ, List.setIfInBounds_toArray, List.set_cons_zero, List.set_cons_succ])
              refine wpAnyH_take (i := 7) (v := ?_) rfl (by kernel_rfl) (by kernel_rfl) (by kernel_rfl) (fun _ _ _ h => h) (Or.inl ⟨by rfl, ?_⟩) (by assumption) ?_
              rotate_left
              · intro w hSw; (try dsimp only at hSw); go_simp; (try with_reducible rfl)
              (try simp only [Act.put, List.getElem_toArray, List.getElem_cons_zero, List.getElem_cons_succ, List.setIfInBounds_toArray, List.set_cons_zero, List.set_cons_succ])
              refine wpAnyH_take (i := 8) (v := ?_) rfl (by kernel_rfl) (by kernel_rfl) (by kernel_rfl) (fun _ _ _ h => h) (Or.inl ⟨by rfl, ?_⟩) (by assumption) ?_
              rotate_left
              · intro w hSw; (try dsimp only at hSw); go_simp; (try with_reducible rfl)
              (try simp only [Act.put, List.getElem_toArray, List.getElem_cons_zero, List.getElem_cons_succ, List.setIfInBounds_toArray, List.set_cons_zero, List.set_cons_succ])
              refine wpAnyH_take (i := 9) (v := ?_) rfl (by kernel_rfl) (by kernel_rfl) (by kernel_rfl) (fun _ _ _ h => h) (Or.inl ⟨by rfl, ?_⟩) (by assumption) ?_
              rotate_left
              · intro w hSw; (try dsimp only at hSw); go_simp; (try with_reducible rfl)
              (try simp only [Act.put, List.getElem_toArray, List.getElem_cons_zero, List.getElem_cons_succ, List.setIfInBounds_toArray, List.set_cons_zero, List.set_cons_succ])
              clear hHeld
              refine wpAnyH_ready (rs := [11]) (by kernel_rfl) (by simp) ?_
              refine AllReadyH.cons rfl (fun K hK => ?_) ?_
              · have zz0 := Z16.cell 0
                have zz1 := Z16.cell 1
                have zz2 := Z16.cell 2
                have zz3 := Z16.cell 3
                have zf0 := Z16.frozen 0
                have zf1 := Z16.frozen 1
                have zf2 := Z16.frozen 2
                have zf3 := Z16.frozen 3
                go_simp
                have HB17 := ((((HB16.setCell (p := ⟨w_15.heap.size, 0, none⟩) hq13 (.int .i64 rL)).setCell (p := ⟨w_15.heap.size, 1, none⟩) hq13 (.int .i64 rT)).setCell (p := ⟨w_15.heap.size, 2, none⟩) hq13 (.int .i64 rY)).setCell (p := ⟨w_15.heap.size, 3, none⟩) hq13 (.slice Ar ys.length cr))
                have hne17 := row_ne' OF16.1 Z16 (by decide)
                have OF17 := ((((OF16.far (a := ⟨w_15.heap.size, 0, none⟩) hne17 (.int .i64 rL)).far (a := ⟨w_15.heap.size, 1, none⟩) hne17 (.int .i64 rT)).far (a := ⟨w_15.heap.size, 2, none⟩) hne17 (.int .i64 rY)).far (a := ⟨w_15.heap.size, 3, none⟩) hne17 (.slice Ar ys.length cr))
                have Z17 : Blk _ _ _ #[.int .i64 rL, .int .i64 rT, .int .i64 rY, .slice Ar ys.length cr] := Z16.put4t
                clear zz0 zz1 zz2 zz3 zf0 zf1 zf2 zf3
                refine hK.out _ _ (by exact ⟨cells_of HB17 ea10 za1, cells_of HB17 ea11 za1, cells_of HB17 ea12 za1, cells_of HB17 ea13 za1⟩) (fun hHeld => ?_)
                clear hK K
                (try simp only [Act.put, List.getElem_toArray, List.getElem_cons_zero, List.getElem_cons_succ, List.setIfInBounds_toArray, List.set_cons_zero, List.set_cons_succ])
                refine wpAnyH_take (i := 12) (v := ?_) rfl (by kernel_rfl) (by kernel_rfl) (by kernel_rfl) (fun _ _ _ h => h) (Or.inl ⟨by rfl, ?_⟩) (by assumption) ?_
                rotate_left
                · intro w hSw; (try dsimp only at hSw); go_simp; (try with_reducible rfl)
                (try simp only [Act.put, List.getElem_toArray, List.getElem_cons_zero, List.getElem_cons_succ, List.setIfInBounds_toArray, List.set_cons_zero, List.set_cons_succ])
                clear hHeld
                refine wpAnyH_done (by kernel_rfl) ?_ _
                refine NoPanic.normal ?_
                go_wp2_with fail
                go_meet
                exact ⟨w_15.heap.size, Ar, cr, rfl, rfl, hq13, Z17.box, OF17, HB17⟩
              exact AllReadyH.nil
            exact AllReadyH.nil
          exact AllReadyH.nil
        exact AllReadyH.nil
      exact AllReadyH.nil
    case rest =>
      obtain ⟨q16, A_16, c_16, rfl, rfl, hq16, Bh0, own, hb⟩ := hcut
      obtain ⟨w_16, hw⟩ : ∃ w_16, w_16 = wc := ⟨_, rfl⟩
      subst hw
      have hqq16 := Bh0.1
      replace Ba1 := Ba1.all hb
      replace Bw0 := Bw0.all hb
      replace Bx1 := Bx1.all hb
      replace Bg0 := Bg0.all hb
      replace R0 := R0.all hb hz
      replace R1 := R1.all hb hz
      replace Ot3 := Ot3.all hb
      replace Ot4 := Ot4.all hb
      replace Ot5 := Ot5.all hb
      replace Ot6 := Ot6.all hb
      replace HB := Lib.hid (HB.out.trans (hb.mono hz))
      have hsw_16 : w_15.heap.size ≤ w_16.heap.size := hb.size
      replace hz : w.heap.size ≤ w_16.heap.size := Nat.le_trans hz hsw_16
      clear hb za1 ea10 ea11 ea12 ea13 zw0 ew00 ew01 ew02 ew03 zx1 ex10 ex11 ex12 ex13 zg0 eg00 eg01 eg02 eg03
      have Ot16 := own; clear own
      have Obt16 := Lib.hid Ot16.bd
      have za1 := Ba1.1
      have ea10 := Ba1.2 0 _ rfl
      have ea11 := Ba1.2 1 _ rfl
      have ea12 := Ba1.2 2 _ rfl
      have ea13 := Ba1.2 3 _ rfl
      have zw0 := Bw0.1
      have ew00 := Bw0.2 0 _ rfl
      have ew01 := Bw0.2 1 _ rfl
      have ew02 := Bw0.2 2 _ rfl
      have ew03 := Bw0.2 3 _ rfl
      have zx1 := Bx1.1
      have ex10 := Bx1.2 0 _ rfl
      have ex11 := Bx1.2 1 _ rfl
      have ex12 := Bx1.2 2 _ rfl
      have ex13 := Bx1.2 3 _ rfl
      have zg0 := Bg0.1
      have eg00 := Bg0.2 0 _ rfl
      have eg01 := Bg0.2 1 _ rfl
      have eg02 := Bg0.2 2 _ rfl
      have eg03 := Bg0.2 3 _ rfl
      have zh0 := Bh0.1
      have eh00 := Bh0.2 0 _ rfl
      have eh01 := Bh0.2 1 _ rfl
      have eh02 := Bh0.2 2 _ rfl
      have eh03 := Bh0.2 3 _ rfl
      go_wp2_with fail
      refine (eqBath_same rL rT rY _ _ _ _ _ _ _ _ ys _ Ot16.rd Ot3.rd (Nat.le_refl _) (Nat.le_refl _)).mono ?_
      rintro e w_17 ⟨rfl, hb⟩
      replace Ba1 := Ba1.all hb
      replace Bw0 := Bw0.all hb
      replace Bx1 := Bx1.all hb
      replace Bg0 := Bg0.all hb
      replace Bh0 := Bh0.all hb
      replace R0 := R0.all hb hz
      replace R1 := R1.all hb hz
      replace Ot3 := Ot3.all hb
      replace Ot4 := Ot4.all hb
      replace Ot5 := Ot5.all hb
      replace Ot6 := Ot6.all hb
      replace Ot16 := Ot16.all hb
      have hsw_17 : w_16.heap.size ≤ w_17.heap.size := hb.size
      replace HB := Lib.hid (HB.out.trans (hb.mono hz))
      replace hz : w.heap.size ≤ w_17.heap.size := by omega
      clear hb za1 ea10 ea11 ea12 ea13 zw0 ew00 ew01 ew02 ew03 zx1 ex10 ex11 ex12 ex13 zg0 eg00 eg01 eg02 eg03 zh0 eh00 eh01 eh02 eh03
      have za1 := Ba1.1
      have ea10 := Ba1.2 0 _ rfl
      have ea11 := Ba1.2 1 _ rfl
      have ea12 := Ba1.2 2 _ rfl
      have ea13 := Ba1.2 3 _ rfl
      have zw0 := Bw0.1
      have ew00 := Bw0.2 0 _ rfl
      have ew01 := Bw0.2 1 _ rfl
      have ew02 := Bw0.2 2 _ rfl
      have ew03 := Bw0.2 3 _ rfl
      have zx1 := Bx1.1
      have ex10 := Bx1.2 0 _ rfl
      have ex11 := Bx1.2 1 _ rfl
      have ex12 := Bx1.2 2 _ rfl
      have ex13 := Bx1.2 3 _ rfl
      have zg0 := Bg0.1
      have eg00 := Bg0.2 0 _ rfl
      have eg01 := Bg0.2 1 _ rfl
      have eg02 := Bg0.2 2 _ rfl
      have eg03 := Bg0.2 3 _ rfl
      have zh0 := Bh0.1
      have eh00 := Bh0.2 0 _ rfl
      have eh01 := Bh0.2 1 _ rfl
      have eh02 := Bh0.2 2 _ rfl
      have eh03 := Bh0.2 3 _ rfl
      go_wp2_with fail
      refine (heldBath_any rL rT rY _ _ _ _ _ _ Ot6.rd (Nat.le_refl _) hl (by omega) (by omega)).mono ?_
      rintro e w_18 ⟨rfl, hb⟩
      replace Ba1 := Ba1.all hb
      replace Bw0 := Bw0.all hb
      replace Bx1 := Bx1.all hb
      replace Bg0 := Bg0.all hb
      replace Bh0 := Bh0.all hb
      replace R0 := R0.all hb hz
      replace R1 := R1.all hb hz
      replace Ot3 := Ot3.all hb
      replace Ot4 := Ot4.all hb
      replace Ot5 := Ot5.all hb
      replace Ot6 := Ot6.all hb
      replace Ot16 := Ot16.all hb
      have hsw_18 : w_17.heap.size ≤ w_18.heap.size := hb.size
      replace HB := Lib.hid (HB.out.trans (hb.mono hz))
      replace hz : w.heap.size ≤ w_18.heap.size := by omega
      clear hb za1 ea10 ea11 ea12 ea13 zw0 ew00 ew01 ew02 ew03 zx1 ex10 ex11 ex12 ex13 zg0 eg00 eg01 eg02 eg03 zh0 eh00 eh01 eh02 eh03
      go_wp2_with fail
      go_ret
      exact ⟨rfl, HB.out⟩

set_option maxRecDepth 100000 in
set_option maxHeartbeats 1000000 in
theorem bigA (w : World) (A0 : Option Addr) (n0 c0 : Nat) (xs0 : List DyePartR) (L1 T1 Y1 : Int) (A1 : Option Addr) (n1 c1 : Nat) (xs1 : List Int) (s2 : ByteArray) (a3 : Int) (h0 : RdF dyePartL w w.heap.size A0 n0 c0 xs0) (_h1 : Rd w w.heap.size A1 n1 c1 xs1) (hs2 : s2.size ≤ 1048576) (hn : ¬ n0 + bulkDyePart xs0 ≤ 1048576) : Calls Try.prog 9 #[.slice A0 n0 c0, bathV L1 T1 Y1 (.slice A1 n1 c1), .string s2, .int .i64 a3] w fun e w' => e = .returned (.bool true) ∧ Below w.heap.size w w' := by
  have hq0 : 0 ≤ ((n0 + bulkDyePart xs0 : Nat) : Int) := by omega
  have hl0 := h0.len_lt
  have HB := (Below.refl w.heap.size w).alloc (Nat.le_refl _) (.cells #[.int .i64 L1, .int .i64 T1, .int .i64 Y1, .slice A1 n1 c1] 31)
  have R0 := h0.alloc (Nat.le_refl _) (.cells #[.int .i64 L1, .int .i64 T1, .int .i64 Y1, .slice A1 n1 c1] 31)
  have hz := HB.size
  go_enter Try.func9, Try.ntmps9
  go_wp2_with fail
  generalize w.alloc (.cells #[.int .i64 L1, .int .i64 T1, .int .i64 Y1, .slice A1 n1 c1] 31) = W1 at *
  refine (szDyePartS_no A0 _ c0 _ xs0 _ _ R0 hz (by omega) (by omega) (by omega)).mono ?_
  rintro e w1 ⟨rfl, hb⟩
  replace HB := HB.trans (hb.mono hz)
  clear hb
  go_wp2_with fail
  go_ret
  exact ⟨rfl, HB⟩
set_option maxRecDepth 100000 in
set_option maxHeartbeats 1000000 in
theorem bigB (w : World) (A0 : Option Addr) (n0 c0 : Nat) (xs0 : List DyePartR) (L1 T1 Y1 : Int) (A1 : Option Addr) (n1 c1 : Nat) (xs1 : List Int) (s2 : ByteArray) (a3 : Int) (h0 : RdF dyePartL w w.heap.size A0 n0 c0 xs0) (h1 : Rd w w.heap.size A1 n1 c1 xs1) (hs2 : s2.size ≤ 1048576) (hm : n0 + bulkDyePart xs0 ≤ 1048576) (hn : ¬ n0 + bulkDyePart xs0 + n1 ≤ 1048576) : Calls Try.prog 9 #[.slice A0 n0 c0, bathV L1 T1 Y1 (.slice A1 n1 c1), .string s2, .int .i64 a3] w fun e w' => e = .returned (.bool true) ∧ Below w.heap.size w w' := by
  have hq0 : 0 ≤ ((n0 + bulkDyePart xs0 : Nat) : Int) := by omega
  have hl0 := h0.len_lt
  have hl1 := h1.len_lt
  have HB := (Below.refl w.heap.size w).alloc (Nat.le_refl _) (.cells #[.int .i64 L1, .int .i64 T1, .int .i64 Y1, .slice A1 n1 c1] 31)
  have R0 := h0.alloc (Nat.le_refl _) (.cells #[.int .i64 L1, .int .i64 T1, .int .i64 Y1, .slice A1 n1 c1] 31)
  have B1 := Blk.new w #[.int .i64 L1, .int .i64 T1, .int .i64 Y1, .slice A1 n1 c1] 31
  have hz := HB.size
  go_enter Try.func9, Try.ntmps9
  go_wp2_with fail
  generalize w.alloc (.cells #[.int .i64 L1, .int .i64 T1, .int .i64 Y1, .slice A1 n1 c1] 31) = W1 at *
  refine (szDyePartS_yes A0 _ c0 _ xs0 _ _ R0 hz (by omega) (by omega)).mono ?_
  rintro e w1 ⟨rfl, hb⟩
  replace HB := HB.trans (hb.mono hz)
  replace B1 := B1.all hb
  clear hb
  have e0 := B1.cell 0
  have e1 := B1.cell 1
  have e2 := B1.cell 2
  have e3 := B1.cell 3
  go_wp2_with fail
  refine (szBath_over L1 T1 Y1 A1 n1 c1 _ _ (by omega) (by omega) (by omega) hl1).mono ?_
  rintro e w2 ⟨rfl, hb⟩
  replace HB := HB.trans (hb.mono HB.size)
  clear hb
  go_wp2_with fail
  go_ret
  exact ⟨rfl, HB⟩
set_option maxRecDepth 100000 in
set_option maxHeartbeats 400000 in
theorem bigS (w : World) (A0 : Option Addr) (n0 c0 : Nat) (_xs0 : List DyePartR) (L1 T1 Y1 : Int) (A1 : Option Addr) (n1 c1 : Nat) (_xs1 : List Int) (s2 : ByteArray) (a3 : Int) (hm : s2.size ≤ maxLen) (hn : ¬ s2.size ≤ 1048576) : Calls Try.prog 9 #[.slice A0 n0 c0, bathV L1 T1 Y1 (.slice A1 n1 c1), .string s2, .int .i64 a3] w fun e w' => e = .returned (.bool true) ∧ Below w.heap.size w w' := by
  have HB := (Below.refl w.heap.size w).alloc (Nat.le_refl _) (.cells #[.int .i64 L1, .int .i64 T1, .int .i64 Y1, .slice A1 n1 c1] 31)
  unfold maxLen at hm
  go_enter Try.func9, Try.ntmps9
  go_wp2_with fail
  go_ret
  exact ⟨rfl, HB⟩
theorem walk (w : World) (A0 : Option Addr) (n0 c0 : Nat) (xs0 : List DyePartR) (L1 T1 Y1 : Int) (A1 : Option Addr) (n1 c1 : Nat) (xs1 : List Int) (s2 : ByteArray) (a3 : Int) (h0 : RdF dyePartL w w.heap.size A0 n0 c0 xs0) (h1 : Rd w w.heap.size A1 n1 c1 xs1) (_m2 : s2.size ≤ maxLen) (_l3 : -9223372036854775808 ≤ a3) (_u3 : a3 ≤ 9223372036854775807) : Calls Try.prog 9 #[.slice A0 n0 c0, bathV L1 T1 Y1 (.slice A1 n1 c1), .string s2, .int .i64 a3] w fun e w' => e = .returned (.bool true) ∧ Below w.heap.size w w' := by
  by_cases hs2 : s2.size ≤ 1048576
  rotate_left
  · exact bigS w A0 n0 c0 xs0 L1 T1 Y1 A1 n1 c1 xs1 s2 a3 _m2 hs2
  have l0 := h0.len
  have l1 := h1.len
  by_cases hm : n0 + bulkDyePart xs0 ≤ 1048576
  · by_cases hn : n0 + bulkDyePart xs0 + n1 ≤ 1048576
    · exact core w A0 n0 c0 xs0 L1 T1 Y1 A1 n1 c1 xs1 s2 a3 h0 h1 hn hs2 _ _ _ _ _ (addStuff_len xs0 L1 T1 Y1 xs1 s2 a3) (Lib.hid (fun w A0 c0 A1 c1 r0 r1 => specAddStuff_any A0 _ c0 _ xs0 L1 T1 Y1 A1 _ c1 _ xs1 s2 a3 w r0 (Nat.le_refl _) r1 (Nat.le_refl _))) (Lib.hid (fun w A0 c0 A1 c1 r0 r1 => implAddStuff_any A0 _ c0 _ xs0 L1 T1 Y1 A1 _ c1 _ xs1 s2 a3 w r0 (Nat.le_refl _) r1 (Nat.le_refl _)))
    · exact bigB w A0 n0 c0 xs0 L1 T1 Y1 A1 n1 c1 xs1 s2 a3 h0 h1 hs2 hm hn
  · exact bigA w A0 n0 c0 xs0 L1 T1 Y1 A1 n1 c1 xs1 s2 a3 h0 h1 hs2 hm
end Go.Proofs.Ytadlgiecceohbaa.addStuff
