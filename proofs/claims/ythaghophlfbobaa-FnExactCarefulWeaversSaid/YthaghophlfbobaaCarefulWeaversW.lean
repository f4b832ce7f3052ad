/- The walk of the law FnExactCarefulWeavers. No condition. -/
import Derived.Test.YthaghophlfbobaaCareful
import Derived.Test.YthaghophlfbobaaCarefulS
import Derived.Test.YthaghophlfbobaaWorkSheetHelp
namespace Go.Proofs.Ythaghophlfbobaa.carefulWeavers
open Go.RowKit

set_option maxRecDepth 100000 in
set_option maxHeartbeats 2000000 in
theorem core (w : World) (A0 : Option Addr) (n0 c0 : Nat) (xs0 : List WorkSheetR) (h0 : RdF workSheetL w w.heap.size A0 n0 c0 xs0) (hs : (n0) ≤ 1048576) (ys : List Int) (r1 : Bool) (hl : ys.length ≤ 100000) (hspec : Hid (∀ (w : World) (A0 : Option Addr) (c0 : Nat), RdF workSheetF w w.heap.size A0 xs0.length c0 xs0 → Calls Try.prog 34 #[.slice A0 xs0.length c0] w (OutInts w ys r1))) (himpl : Hid (∀ (w : World) (A0 : Option Addr) (c0 : Nat), RdF workSheetF w w.heap.size A0 xs0.length c0 xs0 → Calls Try.prog 35 #[.slice A0 xs0.length c0] w (OutInts w ys r1))) :
    Calls Try.prog 9 #[.slice A0 n0 c0] w fun e w' => e = .returned (.bool true) ∧ Below w.heap.size w w' := by
  have q0 : 0 ≤ ((n0 : Nat) : Int) := by omega
  have l0 := h0.len; subst l0
  have HB : Below w.heap.size w w := Below.refl _ _
  have R0 := h0
  clear h0
  have hz0 : w.heap.size ≤ w.heap.size := HB.size
  go_enter Try.func9, Try.ntmps9
  go_wp2_with fail
  refine (szWorkSheetS_yes A0 xs0.length c0 _ _ (by omega) (by omega)).mono ?_
  rintro e w1 ⟨rfl, hb⟩
  have hz1 : w.heap.size ≤ w1.heap.size := Nat.le_trans (by first | exact Nat.le_refl _ | (simp; done) | (simp; omega)) hb.size
  replace R0 := R0.below hb HB.size
  replace HB := HB.trans (hb.mono HB.size)
  clear hb
  go_wp2_with fail
  refine (toWorkSheetS_any A0 xs0.length c0 _ xs0 _ R0 HB.size (by omega)).mono ?_
  rintro e w2 ⟨g2, rfl, own, hb⟩
  have Ob2 : Hid (∀ j, (Value.slice (some ⟨g2, 0, none⟩) xs0.length xs0.length).ownBlock = some j → w1.heap.size ≤ j ∧ j < w2.heap.size) := Lib.hid fun j hj => ⟨Nat.le_trans (by first | exact Nat.le_refl _ | (simp; done) | (simp; omega)) (own.bd j hj).1, (own.bd j hj).2⟩
  have hz2 : w1.heap.size ≤ w2.heap.size := Nat.le_trans (by first | exact Nat.le_refl _ | (simp; done) | (simp; omega)) hb.size
  replace R0 := R0.below hb HB.size
  replace own := own.mono HB.size
  replace HB := HB.trans (hb.mono HB.size)
  clear hb
  have O2 := own; clear own
  go_wp2_with fail
  refine (hspec.out _ _ _ O2.rd).mono ?_
  rintro e w3 ⟨A_3, c_3, rfl, own, hb⟩
  have Ob3 : Hid (∀ j, (Value.slice A_3 ys.length c_3).ownBlock = some j → w2.heap.size ≤ j ∧ j < w3.heap.size) := Lib.hid fun j hj => ⟨Nat.le_trans (by first | exact Nat.le_refl _ | (simp; done) | (simp; omega)) (own.bd j hj).1, (own.bd j hj).2⟩
  have hz3 : w2.heap.size ≤ w3.heap.size := Nat.le_trans (by first | exact Nat.le_refl _ | (simp; done) | (simp; omega)) hb.size
  replace R0 := R0.below hb HB.size
  replace O2 := O2.all hb
  replace own := own.mono HB.size
  replace HB := HB.trans (hb.mono HB.size)
  clear hb
  have O3 := own; clear own
  clear O2 Ob2
  go_wp2_with fail
  refine (toWorkSheetS_any A0 xs0.length c0 _ xs0 _ R0 HB.size (by omega)).mono ?_
  rintro e w4 ⟨g4, rfl, own, hb⟩
  have Ob4 : Hid (∀ j, (Value.slice (some ⟨g4, 0, none⟩) xs0.length xs0.length).ownBlock = some j → w3.heap.size ≤ j ∧ j < w4.heap.size) := Lib.hid fun j hj => ⟨Nat.le_trans (by first | exact Nat.le_refl _ | (simp; done) | (simp; omega)) (own.bd j hj).1, (own.bd j hj).2⟩
  have hz4 : w3.heap.size ≤ w4.heap.size := Nat.le_trans (by first | exact Nat.le_refl _ | (simp; done) | (simp; omega)) hb.size
  replace R0 := R0.below hb HB.size
  replace O3 := O3.all hb
  replace own := own.mono HB.size
  replace HB := HB.trans (hb.mono HB.size)
  clear hb
  have O4 := own; clear own
  go_wp2_with fail
  refine (himpl.out _ _ _ O4.rd).mono ?_
  rintro e w5 ⟨A_5, c_5, rfl, own, hb⟩
  have Ob5 : Hid (∀ j, (Value.slice A_5 ys.length c_5).ownBlock = some j → w4.heap.size ≤ j ∧ j < w5.heap.size) := Lib.hid fun j hj => ⟨Nat.le_trans (by first | exact Nat.le_refl _ | (simp; done) | (simp; omega)) (own.bd j hj).1, (own.bd j hj).2⟩
  have hz5 : w4.heap.size ≤ w5.heap.size := Nat.le_trans (by first | exact Nat.le_refl _ | (simp; done) | (simp; omega)) hb.size
  replace R0 := R0.below hb HB.size
  replace O3 := O3.all hb
  replace O4 := O4.all hb
  replace own := own.mono HB.size
  replace HB := HB.trans (hb.mono HB.size)
  clear hb
  have O5 := own; clear own
  go_wp2_with fail
  refine (eqIntS_low _ _ _ _ _ _ _ _ ys _ O5.rd O3.rd).mono ?_
  rintro e w6 ⟨rfl, hb⟩
  have hz6 : w5.heap.size ≤ w6.heap.size := Nat.le_trans (by first | exact Nat.le_refl _ | (simp; done) | (simp; omega)) hb.size
  replace R0 := R0.below hb HB.size
  replace O3 := O3.all hb
  replace O4 := O4.all hb
  replace O5 := O5.all hb
  replace HB := HB.trans (hb.mono HB.size)
  clear hb
  go_wp2_with fail
  refine (toWorkSheetS_any A0 xs0.length c0 _ xs0 _ R0 HB.size (by omega)).mono ?_
  rintro e w7 ⟨g7, rfl, own, hb⟩
  have Ob7 : Hid (∀ j, (Value.slice (some ⟨g7, 0, none⟩) xs0.length xs0.length).ownBlock = some j → w6.heap.size ≤ j ∧ j < w7.heap.size) := Lib.hid fun j hj => ⟨Nat.le_trans (by first | exact Nat.le_refl _ | (simp; done) | (simp; omega)) (own.bd j hj).1, (own.bd j hj).2⟩
  have hz7 : w6.heap.size ≤ w7.heap.size := Nat.le_trans (by first | exact Nat.le_refl _ | (simp; done) | (simp; omega)) hb.size
  replace R0 := R0.below hb HB.size
  replace O3 := O3.all hb
  replace O4 := O4.all hb
  replace O5 := O5.all hb
  replace own := own.mono HB.size
  replace HB := HB.trans (hb.mono HB.size)
  clear hb
  have O7 := own; clear own
  go_wp2_with fail
  refine (eqWorkSheetS_same _ _ _ _ _ _ _ _ xs0 _ O4.rd O7.rd (Nat.le_refl _) (Nat.le_refl _)).mono ?_
  rintro e w8 ⟨rfl, hb⟩
  have hz8 : w7.heap.size ≤ w8.heap.size := Nat.le_trans (by first | exact Nat.le_refl _ | (simp; done) | (simp; omega)) hb.size
  replace R0 := R0.below hb HB.size
  replace O3 := O3.all hb
  replace O4 := O4.all hb
  replace O5 := O5.all hb
  replace O7 := O7.all hb
  replace HB := HB.trans (hb.mono HB.size)
  clear hb
  clear O7 Ob7
  go_wp2_with fail
  refine (markWorkSheetS_any _ _ _ _ _ O4 (by omega) (by omega) (by omega)).mono ?_
  rintro e w9 ⟨rfl, own, hg⟩
  have hz9 : w8.heap.size ≤ w9.heap.size := hg.size
  replace R0 := R0.mark hg (fun j hj => by have := (Ob4.out j hj).1; omega) HB.size
  replace O3 := O3.mark hg (fun j j' hj hj' => by have := Ob4.out j hj; have := Ob3.out j' hj'; omega)
  replace O5 := O5.mark hg (fun j j' hj hj' => by have := Ob4.out j hj; have := Ob5.out j' hj'; omega)
  replace HB := HB.grown hg HB.size (fun j hj => by have := (Ob4.out j hj).1; omega)
  replace O4 := own; clear own hg
  go_wp2_with fail
  refine (eqIntS_low _ _ _ _ _ _ _ _ ys _ O5.rd O3.rd).mono ?_
  rintro e w10 ⟨rfl, hb⟩
  have hz10 : w9.heap.size ≤ w10.heap.size := Nat.le_trans (by first | exact Nat.le_refl _ | (simp; done) | (simp; omega)) hb.size
  replace R0 := R0.below hb HB.size
  replace O3 := O3.all hb
  replace O4 := O4.all hb
  replace O5 := O5.all hb
  replace HB := HB.trans (hb.mono HB.size)
  clear hb
  go_wp2_with fail
  refine (markIntS_any _ _ _ _ _ O5 (by omega) (by omega) (by omega)).mono ?_
  rintro e w11 ⟨rfl, own, hg⟩
  have hz11 : w10.heap.size ≤ w11.heap.size := hg.size
  replace R0 := R0.mark hg (fun j hj => by have := (Ob5.out j hj).1; omega) HB.size
  replace O3 := O3.mark hg (fun j j' hj hj' => by have := Ob5.out j hj; have := Ob3.out j' hj'; omega)
  replace O4 := O4.mark hg (fun j j' hj hj' => by have := Ob5.out j hj; have := Ob4.out j' hj'; omega)
  replace HB := HB.grown hg HB.size (fun j hj => by have := (Ob5.out j hj).1; omega)
  replace O5 := own; clear own hg
  go_wp2_with fail
  refine (heldIntS_low _ _ _ _ _ _ O5.rd (by omega) (by omega) (by omega)).mono ?_
  rintro e w12 ⟨rfl, hb⟩
  have hz12 : w11.heap.size ≤ w12.heap.size := Nat.le_trans (by first | exact Nat.le_refl _ | (simp; done) | (simp; omega)) hb.size
  replace R0 := R0.below hb HB.size
  replace O3 := O3.all hb
  replace O4 := O4.all hb
  replace O5 := O5.all hb
  replace HB := HB.trans (hb.mono HB.size)
  clear hb
  go_wp2_with fail
  refine (toWorkSheetS_any A0 xs0.length c0 _ xs0 _ R0 HB.size (by omega)).mono ?_
  rintro e w13 ⟨g13, rfl, own, hb⟩
  have Ob13 : Hid (∀ j, (Value.slice (some ⟨g13, 0, none⟩) xs0.length xs0.length).ownBlock = some j → w12.heap.size ≤ j ∧ j < w13.heap.size) := Lib.hid fun j hj => ⟨Nat.le_trans (by first | exact Nat.le_refl _ | (simp; done) | (simp; omega)) (own.bd j hj).1, (own.bd j hj).2⟩
  have hz13 : w12.heap.size ≤ w13.heap.size := Nat.le_trans (by first | exact Nat.le_refl _ | (simp; done) | (simp; omega)) hb.size
  replace R0 := R0.below hb HB.size
  replace O3 := O3.all hb
  replace O4 := O4.all hb
  replace O5 := O5.all hb
  replace own := own.mono HB.size
  replace HB := HB.trans (hb.mono HB.size)
  clear hb
  have O13 := own; clear own
  go_wp2_with fail
  refine (himpl.out _ _ _ O13.rd).mono ?_
  rintro e w14 ⟨A_14, c_14, rfl, own, hb⟩
  have Ob14 : Hid (∀ j, (Value.slice A_14 ys.length c_14).ownBlock = some j → w13.heap.size ≤ j ∧ j < w14.heap.size) := Lib.hid fun j hj => ⟨Nat.le_trans (by first | exact Nat.le_refl _ | (simp; done) | (simp; omega)) (own.bd j hj).1, (own.bd j hj).2⟩
  have hz14 : w13.heap.size ≤ w14.heap.size := Nat.le_trans (by first | exact Nat.le_refl _ | (simp; done) | (simp; omega)) hb.size
  replace R0 := R0.below hb HB.size
  replace O3 := O3.all hb
  replace O4 := O4.all hb
  replace O5 := O5.all hb
  replace O13 := O13.all hb
  replace own := own.mono HB.size
  replace HB := HB.trans (hb.mono HB.size)
  clear hb
  have O14 := own; clear own
  clear O13 Ob13
  go_wp2_with fail
  refine (eqIntS_low _ _ _ _ _ _ _ _ ys _ O14.rd O3.rd).mono ?_
  rintro e w15 ⟨rfl, hb⟩
  have hz15 : w14.heap.size ≤ w15.heap.size := Nat.le_trans (by first | exact Nat.le_refl _ | (simp; done) | (simp; omega)) hb.size
  replace R0 := R0.below hb HB.size
  replace O3 := O3.all hb
  replace O4 := O4.all hb
  replace O5 := O5.all hb
  replace O14 := O14.all hb
  replace HB := HB.trans (hb.mono HB.size)
  clear hb
  go_wp2_with fail
  refine (heldIntS_low _ _ _ _ _ _ O5.rd (by omega) (by omega) (by omega)).mono ?_
  rintro e w16 ⟨rfl, hb⟩
  have hz16 : w15.heap.size ≤ w16.heap.size := Nat.le_trans (by first | exact Nat.le_refl _ | (simp; done) | (simp; omega)) hb.size
  replace R0 := R0.below hb HB.size
  replace O3 := O3.all hb
  replace O4 := O4.all hb
  replace O5 := O5.all hb
  replace O14 := O14.all hb
  replace HB := HB.trans (hb.mono HB.size)
  clear hb
  go_wp2_with fail
  go_ret
  exact ⟨rfl, HB⟩

set_option maxRecDepth 100000 in
set_option maxHeartbeats 2000000 in
theorem big (w : World) (A0 : Option Addr) (n0 c0 : Nat) (xs0 : List WorkSheetR) (h0 : RdF workSheetL w w.heap.size A0 n0 c0 xs0) (hs : ¬ (n0) ≤ 1048576) : Calls Try.prog 9 #[.slice A0 n0 c0] w fun e w' => e = .returned (.bool true) ∧ Below w.heap.size w w' := by
  have len0 := h0.len_lt
  have l0 := h0.len; subst l0
  have q0 : 0 ≤ ((xs0.length : Nat) : Int) := by omega
  have HB : Below w.heap.size w w := Below.refl _ _
  have R0 := h0
  go_enter Try.func9, Try.ntmps9
  go_wp2_with fail
  refine (szWorkSheetS_no A0 xs0.length c0 _ _ (by omega) (by omega) (by omega) (by omega)).mono ?_
  rintro e w1 ⟨rfl, hb⟩
  replace R0 := R0.below hb HB.size
  replace HB := HB.trans (hb.mono HB.size)
  clear hb
  go_wp2_with fail
  go_ret
  exact ⟨rfl, HB⟩
theorem walk (w : World) (A0 : Option Addr) (n0 c0 : Nat) (xs0 : List WorkSheetR) (h0 : RdF workSheetL w w.heap.size A0 n0 c0 xs0) : Calls Try.prog 9 #[.slice A0 n0 c0] w fun e w' => e = .returned (.bool true) ∧ Below w.heap.size w w' := by
  have l0 := h0.len
  by_cases hs : (n0) ≤ 1048576
  · exact core w A0 n0 c0 xs0 h0 hs _ _ (careful14_len xs0) (Lib.hid (fun w A0 c0 h0 => specCarefulWeavers_any A0 _ c0 _ xs0 w h0 (Nat.le_refl _))) (Lib.hid (fun w A0 c0 h0 => implCarefulWeavers_any A0 _ c0 _ xs0 w h0 (Nat.le_refl _)))
  · exact big w A0 n0 c0 xs0 h0 hs
end Go.Proofs.Ythaghophlfbobaa.carefulWeavers
