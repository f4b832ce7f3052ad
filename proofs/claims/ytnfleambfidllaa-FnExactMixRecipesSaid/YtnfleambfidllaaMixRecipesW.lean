/- The walk of the law FnExactMixRecipes. No condition. -/
import Derived.Test.YtnfleambfidllaaMixS
import Derived.Test.YtnfleambfidllaaHeldD
import Derived.Test.YtnfleambfidllaaDyePartHelp
namespace Go.Proofs.Ytnfleambfidllaa.mixRecipes
open Go.RowKit

set_option maxRecDepth 100000 in
set_option maxHeartbeats 2000000 in
theorem core (w : World) (A0 : Option Addr) (n0 c0 : Nat) (xs0 : List DyePartR) (A1 : Option Addr) (n1 c1 : Nat) (xs1 : List DyePartR) (a2 : Int) (h0 : RdF dyePartL w w.heap.size A0 n0 c0 xs0) (h1 : RdF dyePartL w w.heap.size A1 n1 c1 xs1) (hs : (n0 + bulkDyePart xs0) + (n1 + bulkDyePart xs1) ≤ 1048576) (ys : List DyePartR) (r1 : Bool) (hl : ys.length ≤ 100000) (hspec : Hid (∀ (w : World) (A0 : Option Addr) (c0 : Nat) (A1 : Option Addr) (c1 : Nat), RdF dyePartF w w.heap.size A0 xs0.length c0 xs0 → RdF dyePartF w w.heap.size A1 xs1.length c1 xs1 → Calls Try.prog 22 #[.slice A0 xs0.length c0, .slice A1 xs1.length c1, .int .i64 a2] w (OutF dyePartF w ys r1))) (himpl : Hid (∀ (w : World) (A0 : Option Addr) (c0 : Nat) (A1 : Option Addr) (c1 : Nat), RdF dyePartF w w.heap.size A0 xs0.length c0 xs0 → RdF dyePartF w w.heap.size A1 xs1.length c1 xs1 → Calls Try.prog 24 #[.slice A0 xs0.length c0, .slice A1 xs1.length c1, .int .i64 a2] w (OutF dyePartF w ys r1))) :
    Calls Try.prog 4 #[.slice A0 n0 c0, .slice A1 n1 c1, .int .i64 a2] w fun e w' => e = .returned (.bool true) ∧ Below w.heap.size w w' := by
  have q0 : 0 ≤ ((n0 + bulkDyePart xs0 : Nat) : Int) := by omega
  have q1 : 0 ≤ ((n1 + bulkDyePart xs1 : Nat) : Int) := by omega
  have l0 := h0.len; subst l0
  have l1 := h1.len; subst l1
  have HB : Below w.heap.size w w := Below.refl _ _
  have R0 := h0
  have R1 := h1
  clear h0 h1
  have hz0 : w.heap.size ≤ w.heap.size := HB.size
  go_enter Try.func4, Try.ntmps4
  go_wp2_with fail
  refine (szDyePartS_yes A0 xs0.length c0 _ xs0 _ _ R0 HB.size (by omega) (by omega)).mono ?_
  rintro e w1 ⟨rfl, hb⟩
  have hz1 : w.heap.size ≤ w1.heap.size := Nat.le_trans (by first | exact Nat.le_refl _ | (simp; done) | (simp; omega)) hb.size
  replace R0 := R0.below hb HB.size
  replace R1 := R1.below hb HB.size
  replace HB := HB.trans (hb.mono HB.size)
  clear hb
  go_wp2_with fail
  refine (szDyePartS_yes A1 xs1.length c1 _ xs1 _ _ R1 HB.size (by omega) (by omega)).mono ?_
  rintro e w2 ⟨rfl, hb⟩
  have hz2 : w1.heap.size ≤ w2.heap.size := Nat.le_trans (by first | exact Nat.le_refl _ | (simp; done) | (simp; omega)) hb.size
  replace R0 := R0.below hb HB.size
  replace R1 := R1.below hb HB.size
  replace HB := HB.trans (hb.mono HB.size)
  clear hb
  go_wp2_with fail
  refine (toDyePartS_any A0 xs0.length c0 _ xs0 _ R0 HB.size (by omega)).mono ?_
  rintro e w3 ⟨g3, rfl, own, hb⟩
  have Ob3 : Hid (∀ j, (Value.slice (some ⟨g3, 0, none⟩) xs0.length xs0.length).ownBlock = some j → w2.heap.size ≤ j ∧ j < w3.heap.size) := Lib.hid fun j hj => ⟨Nat.le_trans (by first | exact Nat.le_refl _ | (simp; done) | (simp; omega)) (own.bd j hj).1, (own.bd j hj).2⟩
  have hz3 : w2.heap.size ≤ w3.heap.size := Nat.le_trans (by first | exact Nat.le_refl _ | (simp; done) | (simp; omega)) hb.size
  replace R0 := R0.below hb HB.size
  replace R1 := R1.below hb HB.size
  replace own := own.mono HB.size
  replace HB := HB.trans (hb.mono HB.size)
  clear hb
  have O3 := own; clear own
  go_wp2_with fail
  refine (toDyePartS_any A1 xs1.length c1 _ xs1 _ R1 HB.size (by omega)).mono ?_
  rintro e w4 ⟨g4, rfl, own, hb⟩
  have Ob4 : Hid (∀ j, (Value.slice (some ⟨g4, 0, none⟩) xs1.length xs1.length).ownBlock = some j → w3.heap.size ≤ j ∧ j < w4.heap.size) := Lib.hid fun j hj => ⟨Nat.le_trans (by first | exact Nat.le_refl _ | (simp; done) | (simp; omega)) (own.bd j hj).1, (own.bd j hj).2⟩
  have hz4 : w3.heap.size ≤ w4.heap.size := Nat.le_trans (by first | exact Nat.le_refl _ | (simp; done) | (simp; omega)) hb.size
  replace R0 := R0.below hb HB.size
  replace R1 := R1.below hb HB.size
  replace O3 := O3.all hb
  replace own := own.mono HB.size
  replace HB := HB.trans (hb.mono HB.size)
  clear hb
  have O4 := own; clear own
  go_wp2_with fail
  refine (hspec.out _ _ _ _ _ O3.rd O4.rd).mono ?_
  rintro e w5 ⟨A_5, c_5, rfl, own, hb⟩
  have Ob5 : Hid (∀ j, (Value.slice A_5 ys.length c_5).ownBlock = some j → w4.heap.size ≤ j ∧ j < w5.heap.size) := Lib.hid fun j hj => ⟨Nat.le_trans (by first | exact Nat.le_refl _ | (simp; done) | (simp; omega)) (own.bd j hj).1, (own.bd j hj).2⟩
  have hz5 : w4.heap.size ≤ w5.heap.size := Nat.le_trans (by first | exact Nat.le_refl _ | (simp; done) | (simp; omega)) hb.size
  replace R0 := R0.below hb HB.size
  replace R1 := R1.below hb HB.size
  replace O3 := O3.all hb
  replace O4 := O4.all hb
  replace own := own.mono HB.size
  replace HB := HB.trans (hb.mono HB.size)
  clear hb
  have O5 := own; clear own
  clear O3 Ob3
  clear O4 Ob4
  go_wp2_with fail
  refine (toDyePartS_any A0 xs0.length c0 _ xs0 _ R0 HB.size (by omega)).mono ?_
  rintro e w6 ⟨g6, rfl, own, hb⟩
  have Ob6 : Hid (∀ j, (Value.slice (some ⟨g6, 0, none⟩) xs0.length xs0.length).ownBlock = some j → w5.heap.size ≤ j ∧ j < w6.heap.size) := Lib.hid fun j hj => ⟨Nat.le_trans (by first | exact Nat.le_refl _ | (simp; done) | (simp; omega)) (own.bd j hj).1, (own.bd j hj).2⟩
  have hz6 : w5.heap.size ≤ w6.heap.size := Nat.le_trans (by first | exact Nat.le_refl _ | (simp; done) | (simp; omega)) hb.size
  replace R0 := R0.below hb HB.size
  replace R1 := R1.below hb HB.size
  replace O5 := O5.all hb
  replace own := own.mono HB.size
  replace HB := HB.trans (hb.mono HB.size)
  clear hb
  have O6 := own; clear own
  go_wp2_with fail
  refine (toDyePartS_any A1 xs1.length c1 _ xs1 _ R1 HB.size (by omega)).mono ?_
  rintro e w7 ⟨g7, rfl, own, hb⟩
  have Ob7 : Hid (∀ j, (Value.slice (some ⟨g7, 0, none⟩) xs1.length xs1.length).ownBlock = some j → w6.heap.size ≤ j ∧ j < w7.heap.size) := Lib.hid fun j hj => ⟨Nat.le_trans (by first | exact Nat.le_refl _ | (simp; done) | (simp; omega)) (own.bd j hj).1, (own.bd j hj).2⟩
  have hz7 : w6.heap.size ≤ w7.heap.size := Nat.le_trans (by first | exact Nat.le_refl _ | (simp; done) | (simp; omega)) hb.size
  replace R0 := R0.below hb HB.size
  replace R1 := R1.below hb HB.size
  replace O5 := O5.all hb
  replace O6 := O6.all hb
  replace own := own.mono HB.size
  replace HB := HB.trans (hb.mono HB.size)
  clear hb
  have O7 := own; clear own
  go_wp2_with fail
  refine (himpl.out _ _ _ _ _ O6.rd O7.rd).mono ?_
  rintro e w8 ⟨A_8, c_8, rfl, own, hb⟩
  have Ob8 : Hid (∀ j, (Value.slice A_8 ys.length c_8).ownBlock = some j → w7.heap.size ≤ j ∧ j < w8.heap.size) := Lib.hid fun j hj => ⟨Nat.le_trans (by first | exact Nat.le_refl _ | (simp; done) | (simp; omega)) (own.bd j hj).1, (own.bd j hj).2⟩
  have hz8 : w7.heap.size ≤ w8.heap.size := Nat.le_trans (by first | exact Nat.le_refl _ | (simp; done) | (simp; omega)) hb.size
  replace R0 := R0.below hb HB.size
  replace R1 := R1.below hb HB.size
  replace O5 := O5.all hb
  replace O6 := O6.all hb
  replace O7 := O7.all hb
  replace own := own.mono HB.size
  replace HB := HB.trans (hb.mono HB.size)
  clear hb
  have O8 := own; clear own
  go_wp2_with fail
  refine (eqDyePartS_same _ _ _ _ _ _ _ _ ys _ O8.rd O5.rd (Nat.le_refl _) (Nat.le_refl _)).mono ?_
  rintro e w9 ⟨rfl, hb⟩
  have hz9 : w8.heap.size ≤ w9.heap.size := Nat.le_trans (by first | exact Nat.le_refl _ | (simp; done) | (simp; omega)) hb.size
  replace R0 := R0.below hb HB.size
  replace R1 := R1.below hb HB.size
  replace O5 := O5.all hb
  replace O6 := O6.all hb
  replace O7 := O7.all hb
  replace O8 := O8.all hb
  replace HB := HB.trans (hb.mono HB.size)
  clear hb
  go_wp2_with fail
  refine (toDyePartS_any A0 xs0.length c0 _ xs0 _ R0 HB.size (by omega)).mono ?_
  rintro e w10 ⟨g10, rfl, own, hb⟩
  have Ob10 : Hid (∀ j, (Value.slice (some ⟨g10, 0, none⟩) xs0.length xs0.length).ownBlock = some j → w9.heap.size ≤ j ∧ j < w10.heap.size) := Lib.hid fun j hj => ⟨Nat.le_trans (by first | exact Nat.le_refl _ | (simp; done) | (simp; omega)) (own.bd j hj).1, (own.bd j hj).2⟩
  have hz10 : w9.heap.size ≤ w10.heap.size := Nat.le_trans (by first | exact Nat.le_refl _ | (simp; done) | (simp; omega)) hb.size
  replace R0 := R0.below hb HB.size
  replace R1 := R1.below hb HB.size
  replace O5 := O5.all hb
  replace O6 := O6.all hb
  replace O7 := O7.all hb
  replace O8 := O8.all hb
  replace own := own.mono HB.size
  replace HB := HB.trans (hb.mono HB.size)
  clear hb
  have O10 := own; clear own
  go_wp2_with fail
  refine (eqDyePartS_same _ _ _ _ _ _ _ _ xs0 _ O6.rd O10.rd (Nat.le_refl _) (Nat.le_refl _)).mono ?_
  rintro e w11 ⟨rfl, hb⟩
  have hz11 : w10.heap.size ≤ w11.heap.size := Nat.le_trans (by first | exact Nat.le_refl _ | (simp; done) | (simp; omega)) hb.size
  replace R0 := R0.below hb HB.size
  replace R1 := R1.below hb HB.size
  replace O5 := O5.all hb
  replace O6 := O6.all hb
  replace O7 := O7.all hb
  replace O8 := O8.all hb
  replace O10 := O10.all hb
  replace HB := HB.trans (hb.mono HB.size)
  clear hb
  clear O10 Ob10
  go_wp2_with fail
  refine (toDyePartS_any A1 xs1.length c1 _ xs1 _ R1 HB.size (by omega)).mono ?_
  rintro e w12 ⟨g12, rfl, own, hb⟩
  have Ob12 : Hid (∀ j, (Value.slice (some ⟨g12, 0, none⟩) xs1.length xs1.length).ownBlock = some j → w11.heap.size ≤ j ∧ j < w12.heap.size) := Lib.hid fun j hj => ⟨Nat.le_trans (by first | exact Nat.le_refl _ | (simp; done) | (simp; omega)) (own.bd j hj).1, (own.bd j hj).2⟩
  have hz12 : w11.heap.size ≤ w12.heap.size := Nat.le_trans (by first | exact Nat.le_refl _ | (simp; done) | (simp; omega)) hb.size
  replace R0 := R0.below hb HB.size
  replace R1 := R1.below hb HB.size
  replace O5 := O5.all hb
  replace O6 := O6.all hb
  replace O7 := O7.all hb
  replace O8 := O8.all hb
  replace own := own.mono HB.size
  replace HB := HB.trans (hb.mono HB.size)
  clear hb
  have O12 := own; clear own
  go_wp2_with fail
  refine (eqDyePartS_same _ _ _ _ _ _ _ _ xs1 _ O7.rd O12.rd (Nat.le_refl _) (Nat.le_refl _)).mono ?_
  rintro e w13 ⟨rfl, hb⟩
  have hz13 : w12.heap.size ≤ w13.heap.size := Nat.le_trans (by first | exact Nat.le_refl _ | (simp; done) | (simp; omega)) hb.size
  replace R0 := R0.below hb HB.size
  replace R1 := R1.below hb HB.size
  replace O5 := O5.all hb
  replace O6 := O6.all hb
  replace O7 := O7.all hb
  replace O8 := O8.all hb
  replace O12 := O12.all hb
  replace HB := HB.trans (hb.mono HB.size)
  clear hb
  clear O12 Ob12
  go_wp2_with fail
  refine (markDyePartS_any _ _ _ _ _ O6 (by omega) (by omega) (by omega)).mono ?_
  rintro e w14 ⟨rfl, own, hg⟩
  have hz14 : w13.heap.size ≤ w14.heap.size := hg.size
  replace R0 := R0.mark hg (fun j hj => by have := (Ob6.out j hj).1; omega) HB.size
  replace R1 := R1.mark hg (fun j hj => by have := (Ob6.out j hj).1; omega) HB.size
  replace O5 := O5.mark hg (fun j j' hj hj' => by have := Ob6.out j hj; have := Ob5.out j' hj'; omega)
  replace O7 := O7.mark hg (fun j j' hj hj' => by have := Ob6.out j hj; have := Ob7.out j' hj'; omega)
  replace O8 := O8.mark hg (fun j j' hj hj' => by have := Ob6.out j hj; have := Ob8.out j' hj'; omega)
  replace HB := HB.grown hg HB.size (fun j hj => by have := (Ob6.out j hj).1; omega)
  replace O6 := own; clear own hg
  go_wp2_with fail
  refine (markDyePartS_any _ _ _ _ _ O7 (by omega) (by omega) (by omega)).mono ?_
  rintro e w15 ⟨rfl, own, hg⟩
  have hz15 : w14.heap.size ≤ w15.heap.size := hg.size
  replace R0 := R0.mark hg (fun j hj => by have := (Ob7.out j hj).1; omega) HB.size
  replace R1 := R1.mark hg (fun j hj => by have := (Ob7.out j hj).1; omega) HB.size
  replace O5 := O5.mark hg (fun j j' hj hj' => by have := Ob7.out j hj; have := Ob5.out j' hj'; omega)
  replace O6 := O6.mark hg (fun j j' hj hj' => by have := Ob7.out j hj; have := Ob6.out j' hj'; omega)
  replace O8 := O8.mark hg (fun j j' hj hj' => by have := Ob7.out j hj; have := Ob8.out j' hj'; omega)
  replace HB := HB.grown hg HB.size (fun j hj => by have := (Ob7.out j hj).1; omega)
  replace O7 := own; clear own hg
  go_wp2_with fail
  refine (eqDyePartS_same _ _ _ _ _ _ _ _ ys _ O8.rd O5.rd (Nat.le_refl _) (Nat.le_refl _)).mono ?_
  rintro e w16 ⟨rfl, hb⟩
  have hz16 : w15.heap.size ≤ w16.heap.size := Nat.le_trans (by first | exact Nat.le_refl _ | (simp; done) | (simp; omega)) hb.size
  replace R0 := R0.below hb HB.size
  replace R1 := R1.below hb HB.size
  replace O5 := O5.all hb
  replace O6 := O6.all hb
  replace O7 := O7.all hb
  replace O8 := O8.all hb
  replace HB := HB.trans (hb.mono HB.size)
  clear hb
  go_wp2_with fail
  refine (markDyePartS_any _ _ _ _ _ O8 (by omega) (by omega) (by omega)).mono ?_
  rintro e w17 ⟨rfl, own, hg⟩
  have hz17 : w16.heap.size ≤ w17.heap.size := hg.size
  replace R0 := R0.mark hg (fun j hj => by have := (Ob8.out j hj).1; omega) HB.size
  replace R1 := R1.mark hg (fun j hj => by have := (Ob8.out j hj).1; omega) HB.size
  replace O5 := O5.mark hg (fun j j' hj hj' => by have := Ob8.out j hj; have := Ob5.out j' hj'; omega)
  replace O6 := O6.mark hg (fun j j' hj hj' => by have := Ob8.out j hj; have := Ob6.out j' hj'; omega)
  replace O7 := O7.mark hg (fun j j' hj hj' => by have := Ob8.out j hj; have := Ob7.out j' hj'; omega)
  replace HB := HB.grown hg HB.size (fun j hj => by have := (Ob8.out j hj).1; omega)
  replace O8 := own; clear own hg
  go_wp2_with fail
  refine (heldDyePartS_any _ _ _ _ _ _ O8.rd (Nat.le_refl _) (by omega) (by omega) (by omega)).mono ?_
  rintro e w18 ⟨rfl, hb⟩
  have hz18 : w17.heap.size ≤ w18.heap.size := Nat.le_trans (by first | exact Nat.le_refl _ | (simp; done) | (simp; omega)) hb.size
  replace R0 := R0.below hb HB.size
  replace R1 := R1.below hb HB.size
  replace O5 := O5.all hb
  replace O6 := O6.all hb
  replace O7 := O7.all hb
  replace O8 := O8.all hb
  replace HB := HB.trans (hb.mono HB.size)
  clear hb
  go_wp2_with fail
  refine (toDyePartS_any A0 xs0.length c0 _ xs0 _ R0 HB.size (by omega)).mono ?_
  rintro e w19 ⟨g19, rfl, own, hb⟩
  have Ob19 : Hid (∀ j, (Value.slice (some ⟨g19, 0, none⟩) xs0.length xs0.length).ownBlock = some j → w18.heap.size ≤ j ∧ j < w19.heap.size) := Lib.hid fun j hj => ⟨Nat.le_trans (by first | exact Nat.le_refl _ | (simp; done) | (simp; omega)) (own.bd j hj).1, (own.bd j hj).2⟩
  have hz19 : w18.heap.size ≤ w19.heap.size := Nat.le_trans (by first | exact Nat.le_refl _ | (simp; done) | (simp; omega)) hb.size
  replace R0 := R0.below hb HB.size
  replace R1 := R1.below hb HB.size
  replace O5 := O5.all hb
  replace O6 := O6.all hb
  replace O7 := O7.all hb
  replace O8 := O8.all hb
  replace own := own.mono HB.size
  replace HB := HB.trans (hb.mono HB.size)
  clear hb
  have O19 := own; clear own
  go_wp2_with fail
  refine (toDyePartS_any A1 xs1.length c1 _ xs1 _ R1 HB.size (by omega)).mono ?_
  rintro e w20 ⟨g20, rfl, own, hb⟩
  have Ob20 : Hid (∀ j, (Value.slice (some ⟨g20, 0, none⟩) xs1.length xs1.length).ownBlock = some j → w19.heap.size ≤ j ∧ j < w20.heap.size) := Lib.hid fun j hj => ⟨Nat.le_trans (by first | exact Nat.le_refl _ | (simp; done) | (simp; omega)) (own.bd j hj).1, (own.bd j hj).2⟩
  have hz20 : w19.heap.size ≤ w20.heap.size := Nat.le_trans (by first | exact Nat.le_refl _ | (simp; done) | (simp; omega)) hb.size
  replace R0 := R0.below hb HB.size
  replace R1 := R1.below hb HB.size
  replace O5 := O5.all hb
  replace O6 := O6.all hb
  replace O7 := O7.all hb
  replace O8 := O8.all hb
  replace O19 := O19.all hb
  replace own := own.mono HB.size
  replace HB := HB.trans (hb.mono HB.size)
  clear hb
  have O20 := own; clear own
  go_wp2_with fail
  refine (himpl.out _ _ _ _ _ O19.rd O20.rd).mono ?_
  rintro e w21 ⟨A_21, c_21, rfl, own, hb⟩
  have Ob21 : Hid (∀ j, (Value.slice A_21 ys.length c_21).ownBlock = some j → w20.heap.size ≤ j ∧ j < w21.heap.size) := Lib.hid fun j hj => ⟨Nat.le_trans (by first | exact Nat.le_refl _ | (simp; done) | (simp; omega)) (own.bd j hj).1, (own.bd j hj).2⟩
  have hz21 : w20.heap.size ≤ w21.heap.size := Nat.le_trans (by first | exact Nat.le_refl _ | (simp; done) | (simp; omega)) hb.size
  replace R0 := R0.below hb HB.size
  replace R1 := R1.below hb HB.size
  replace O5 := O5.all hb
  replace O6 := O6.all hb
  replace O7 := O7.all hb
  replace O8 := O8.all hb
  replace O19 := O19.all hb
  replace O20 := O20.all hb
  replace own := own.mono HB.size
  replace HB := HB.trans (hb.mono HB.size)
  clear hb
  have O21 := own; clear own
  clear O19 Ob19
  clear O20 Ob20
  go_wp2_with fail
  refine (eqDyePartS_same _ _ _ _ _ _ _ _ ys _ O21.rd O5.rd (Nat.le_refl _) (Nat.le_refl _)).mono ?_
  rintro e w22 ⟨rfl, hb⟩
  have hz22 : w21.heap.size ≤ w22.heap.size := Nat.le_trans (by first | exact Nat.le_refl _ | (simp; done) | (simp; omega)) hb.size
  replace R0 := R0.below hb HB.size
  replace R1 := R1.below hb HB.size
  replace O5 := O5.all hb
  replace O6 := O6.all hb
  replace O7 := O7.all hb
  replace O8 := O8.all hb
  replace O21 := O21.all hb
  replace HB := HB.trans (hb.mono HB.size)
  clear hb
  go_wp2_with fail
  refine (heldDyePartS_any _ _ _ _ _ _ O8.rd (Nat.le_refl _) (by omega) (by omega) (by omega)).mono ?_
  rintro e w23 ⟨rfl, hb⟩
  have hz23 : w22.heap.size ≤ w23.heap.size := Nat.le_trans (by first | exact Nat.le_refl _ | (simp; done) | (simp; omega)) hb.size
  replace R0 := R0.below hb HB.size
  replace R1 := R1.below hb HB.size
  replace O5 := O5.all hb
  replace O6 := O6.all hb
  replace O7 := O7.all hb
  replace O8 := O8.all hb
  replace O21 := O21.all hb
  replace HB := HB.trans (hb.mono HB.size)
  clear hb
  go_wp2_with fail
  go_ret
  exact ⟨rfl, HB⟩

set_option maxRecDepth 100000 in
set_option maxHeartbeats 2000000 in
theorem big (w : World) (A0 : Option Addr) (n0 c0 : Nat) (xs0 : List DyePartR) (A1 : Option Addr) (n1 c1 : Nat) (xs1 : List DyePartR) (a2 : Int) (h0 : RdF dyePartL w w.heap.size A0 n0 c0 xs0) (h1 : RdF dyePartL w w.heap.size A1 n1 c1 xs1) (hs : ¬ (n0 + bulkDyePart xs0) + (n1 + bulkDyePart xs1) ≤ 1048576) : Calls Try.prog 4 #[.slice A0 n0 c0, .slice A1 n1 c1, .int .i64 a2] w fun e w' => e = .returned (.bool true) ∧ Below w.heap.size w w' := by
  have len0 := h0.len_lt
  have len1 := h1.len_lt
  by_cases hf : n0 + bulkDyePart xs0 ≤ 1048576
  · have l0 := h0.len; subst l0
    have l1 := h1.len; subst l1
    have q0 : 0 ≤ ((xs0.length + bulkDyePart xs0 : Nat) : Int) := by omega
    have q1 : 0 ≤ ((xs1.length + bulkDyePart xs1 : Nat) : Int) := by omega
    have HB : Below w.heap.size w w := Below.refl _ _
    have R0 := h0
    have R1 := h1
    go_enter Try.func4, Try.ntmps4
    go_wp2_with fail
    refine (szDyePartS_yes A0 xs0.length c0 _ xs0 _ _ R0 HB.size (by omega) (by omega)).mono ?_
    rintro e w1 ⟨rfl, hb⟩
    replace R0 := R0.below hb HB.size
    replace R1 := R1.below hb HB.size
    replace HB := HB.trans (hb.mono HB.size)
    clear hb
    go_wp2_with fail
    refine (szDyePartS_no A1 xs1.length c1 _ xs1 _ _ R1 HB.size (by omega) (by omega) (by omega)).mono ?_
    rintro e w2 ⟨rfl, hb⟩
    replace R0 := R0.below hb HB.size
    replace R1 := R1.below hb HB.size
    replace HB := HB.trans (hb.mono HB.size)
    clear hb
    go_wp2_with fail
    go_ret
    exact ⟨rfl, HB⟩
  · have l0 := h0.len; subst l0
    have l1 := h1.len; subst l1
    have q0 : 0 ≤ ((xs0.length + bulkDyePart xs0 : Nat) : Int) := by omega
    have q1 : 0 ≤ ((xs1.length + bulkDyePart xs1 : Nat) : Int) := by omega
    have HB : Below w.heap.size w w := Below.refl _ _
    have R0 := h0
    have R1 := h1
    go_enter Try.func4, Try.ntmps4
    go_wp2_with fail
    refine (szDyePartS_no A0 xs0.length c0 _ xs0 _ _ R0 HB.size (by omega) (by omega) (by omega)).mono ?_
    rintro e w1 ⟨rfl, hb⟩
    replace R0 := R0.below hb HB.size
    replace R1 := R1.below hb HB.size
    replace HB := HB.trans (hb.mono HB.size)
    clear hb
    go_wp2_with fail
    go_ret
    exact ⟨rfl, HB⟩
theorem walk (w : World) (A0 : Option Addr) (n0 c0 : Nat) (xs0 : List DyePartR) (A1 : Option Addr) (n1 c1 : Nat) (xs1 : List DyePartR) (a2 : Int) (h0 : RdF dyePartL w w.heap.size A0 n0 c0 xs0) (h1 : RdF dyePartL w w.heap.size A1 n1 c1 xs1) (_l2 : -9223372036854775808 ≤ a2) (_u2 : a2 ≤ 9223372036854775807) : Calls Try.prog 4 #[.slice A0 n0 c0, .slice A1 n1 c1, .int .i64 a2] w fun e w' => e = .returned (.bool true) ∧ Below w.heap.size w w' := by
  have l0 := h0.len
  have l1 := h1.len
  by_cases hs : (n0 + bulkDyePart xs0) + (n1 + bulkDyePart xs1) ≤ 1048576
  · exact core w A0 n0 c0 xs0 A1 n1 c1 xs1 a2 h0 h1 hs _ _ (mixR_len xs0 xs1 a2) (Lib.hid (fun w A0 c0 A1 c1 r0 r1 => specMixRecipes_any A0 _ c0 _ xs0 A1 _ c1 _ xs1 a2 w r0 (Nat.le_refl _) r1 (Nat.le_refl _))) (Lib.hid (fun w A0 c0 A1 c1 r0 r1 => implMixRecipes_any A0 _ c0 _ xs0 A1 _ c1 _ xs1 a2 w r0 (Nat.le_refl _) r1 (Nat.le_refl _)))
  · exact big w A0 n0 c0 xs0 A1 n1 c1 xs1 a2 h0 h1 hs
end Go.Proofs.Ytnfleambfidllaa.mixRecipes
