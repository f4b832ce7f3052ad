/- The walk of the law FnExactLoomsUsed. No condition. -/
import Derived.Test.YteghebjnaggmoaaUsed11
import Derived.Test.YteghebjnaggmoaaUsed11S
import Derived.Test.YteghebjnaggmoaaWeaverHelp
namespace Go.Proofs.Yteghebjnaggmoaa.loomsUsed
open Go.RowKit

set_option maxRecDepth 100000 in
set_option maxHeartbeats 2000000 in
theorem core (w : World) (A0 : Option Addr) (n0 c0 : Nat) (xs0 : List WeaverR) (h0 : RdF weaverL w w.heap.size A0 n0 c0 xs0) (hs : (n0 + bulkWeaver xs0) ≤ 1048576) (ys : List Int) (zs : List Int) (r2 : Bool) (hl : ys.length ≤ 100000 ∧ zs.length ≤ 100000) (hspec : Hid (∀ (w : World) (A0 : Option Addr) (c0 : Nat), RdF weaverF w w.heap.size A0 xs0.length c0 xs0 → Calls Try.prog 41 #[.slice A0 xs0.length c0] w (OutInts2 w ys zs r2))) (himpl : Hid (∀ (w : World) (A0 : Option Addr) (c0 : Nat), RdF weaverF w w.heap.size A0 xs0.length c0 xs0 → Calls Try.prog 42 #[.slice A0 xs0.length c0] w (OutInts2 w ys zs r2))) :
    Calls Try.prog 12 #[.slice A0 n0 c0] w fun e w' => e = .returned (.bool true) ∧ Below w.heap.size w w' := by
  have q0 : 0 ≤ ((n0 + bulkWeaver xs0 : Nat) : Int) := by omega
  have l0 := h0.len; subst l0
  have HB : Below w.heap.size w w := Below.refl _ _
  have R0 := h0
  clear h0
  have hz0 : w.heap.size ≤ w.heap.size := HB.size
  go_enter Try.func12, Try.ntmps12
  go_wp2_with fail
  refine (szWeaverS_yes A0 xs0.length c0 _ xs0 _ _ R0 HB.size (by omega) (by omega)).mono ?_
  rintro e w1 ⟨rfl, hb⟩
  have hz1 : w.heap.size ≤ w1.heap.size := Nat.le_trans (by first | exact Nat.le_refl _ | (simp; done) | (simp; omega)) hb.size
  replace R0 := R0.below hb HB.size
  replace HB := HB.trans (hb.mono HB.size)
  clear hb
  go_wp2_with fail
  refine (toWeaverS_any A0 xs0.length c0 _ xs0 _ R0 HB.size (by omega)).mono ?_
  rintro e w2 ⟨g2, rfl, own, hb⟩
  have Ob2 : Hid (∀ j, (Value.slice (some ⟨g2, 0, none⟩) xs0.length xs0.length).ownBlock = some j → w1.heap.size ≤ j ∧ j < w2.heap.size) := Lib.hid fun j hj => ⟨Nat.le_trans (by first | exact Nat.le_refl _ | (simp; done) | (simp; omega)) (own.bd j hj).1, (own.bd j hj).2⟩
  have hz2 : w1.heap.size ≤ w2.heap.size := Nat.le_trans (by first | exact Nat.le_refl _ | (simp; done) | (simp; omega)) hb.size
  replace R0 := R0.below hb HB.size
  replace own := own.mono HB.size
  replace HB := HB.trans (hb.mono HB.size)
  clear hb
  have O2 := own; clear own
  go_wp2_with fail
  refine (hspec.out _ _ _ O2.rd).mono ?_
  rintro e w3 ⟨A_3, c_3, P_3, d_3, rfl, own, ownb, hD, hb⟩
  have Ob3 : Hid (∀ j, (Value.slice A_3 ys.length c_3).ownBlock = some j → w2.heap.size ≤ j ∧ j < w3.heap.size) := Lib.hid fun j hj => ⟨Nat.le_trans (by first | exact Nat.le_refl _ | (simp; done) | (simp; omega)) (own.bd j hj).1, (own.bd j hj).2⟩
  have Pb3 : Hid (∀ j, (Value.slice P_3 zs.length d_3).ownBlock = some j → w2.heap.size ≤ j ∧ j < w3.heap.size) := Lib.hid fun j hj => ⟨Nat.le_trans (by first | exact Nat.le_refl _ | (simp; done) | (simp; omega)) (ownb.bd j hj).1, (ownb.bd j hj).2⟩
  replace ownb := ownb.mono HB.size
  have hz3 : w2.heap.size ≤ w3.heap.size := Nat.le_trans (by first | exact Nat.le_refl _ | (simp; done) | (simp; omega)) hb.size
  replace R0 := R0.below hb HB.size
  replace O2 := O2.all hb
  replace own := own.mono HB.size
  replace HB := HB.trans (hb.mono HB.size)
  clear hb
  have O3 := own; have P3 := ownb; have D3 := Lib.hid hD; clear own ownb hD
  clear O2 Ob2
  go_wp2_with fail
  refine (toWeaverS_any A0 xs0.length c0 _ xs0 _ R0 HB.size (by omega)).mono ?_
  rintro e w4 ⟨g4, rfl, own, hb⟩
  have Ob4 : Hid (∀ j, (Value.slice (some ⟨g4, 0, none⟩) xs0.length xs0.length).ownBlock = some j → w3.heap.size ≤ j ∧ j < w4.heap.size) := Lib.hid fun j hj => ⟨Nat.le_trans (by first | exact Nat.le_refl _ | (simp; done) | (simp; omega)) (own.bd j hj).1, (own.bd j hj).2⟩
  have hz4 : w3.heap.size ≤ w4.heap.size := Nat.le_trans (by first | exact Nat.le_refl _ | (simp; done) | (simp; omega)) hb.size
  replace R0 := R0.below hb HB.size
  replace O3 := O3.all hb
  replace P3 := P3.all hb
  replace own := own.mono HB.size
  replace HB := HB.trans (hb.mono HB.size)
  clear hb
  have O4 := own; clear own
  go_wp2_with fail
  refine (himpl.out _ _ _ O4.rd).mono ?_
  rintro e w5 ⟨A_5, c_5, P_5, d_5, rfl, own, ownb, hD, hb⟩
  have Ob5 : Hid (∀ j, (Value.slice A_5 ys.length c_5).ownBlock = some j → w4.heap.size ≤ j ∧ j < w5.heap.size) := Lib.hid fun j hj => ⟨Nat.le_trans (by first | exact Nat.le_refl _ | (simp; done) | (simp; omega)) (own.bd j hj).1, (own.bd j hj).2⟩
  have Pb5 : Hid (∀ j, (Value.slice P_5 zs.length d_5).ownBlock = some j → w4.heap.size ≤ j ∧ j < w5.heap.size) := Lib.hid fun j hj => ⟨Nat.le_trans (by first | exact Nat.le_refl _ | (simp; done) | (simp; omega)) (ownb.bd j hj).1, (ownb.bd j hj).2⟩
  replace ownb := ownb.mono HB.size
  have hz5 : w4.heap.size ≤ w5.heap.size := Nat.le_trans (by first | exact Nat.le_refl _ | (simp; done) | (simp; omega)) hb.size
  replace R0 := R0.below hb HB.size
  replace O3 := O3.all hb
  replace P3 := P3.all hb
  replace O4 := O4.all hb
  replace own := own.mono HB.size
  replace HB := HB.trans (hb.mono HB.size)
  clear hb
  have O5 := own; have P5 := ownb; have D5 := Lib.hid hD; clear own ownb hD
  go_wp2_with fail
  refine (eqIntS_low _ _ _ _ _ _ _ _ ys _ O5.rd O3.rd).mono ?_
  rintro e w6 ⟨rfl, hb⟩
  have hz6 : w5.heap.size ≤ w6.heap.size := Nat.le_trans (by first | exact Nat.le_refl _ | (simp; done) | (simp; omega)) hb.size
  replace R0 := R0.below hb HB.size
  replace O3 := O3.all hb
  replace P3 := P3.all hb
  replace O4 := O4.all hb
  replace O5 := O5.all hb
  replace P5 := P5.all hb
  replace HB := HB.trans (hb.mono HB.size)
  clear hb
  go_wp2_with fail
  refine (eqIntS_low _ _ _ _ _ _ _ _ zs _ P5.rd P3.rd).mono ?_
  rintro e w7 ⟨rfl, hb⟩
  have hz7 : w6.heap.size ≤ w7.heap.size := Nat.le_trans (by first | exact Nat.le_refl _ | (simp; done) | (simp; omega)) hb.size
  replace R0 := R0.below hb HB.size
  replace O3 := O3.all hb
  replace P3 := P3.all hb
  replace O4 := O4.all hb
  replace O5 := O5.all hb
  replace P5 := P5.all hb
  replace HB := HB.trans (hb.mono HB.size)
  clear hb
  go_wp2_with fail
  refine (toWeaverS_any A0 xs0.length c0 _ xs0 _ R0 HB.size (by omega)).mono ?_
  rintro e w8 ⟨g8, rfl, own, hb⟩
  have Ob8 : Hid (∀ j, (Value.slice (some ⟨g8, 0, none⟩) xs0.length xs0.length).ownBlock = some j → w7.heap.size ≤ j ∧ j < w8.heap.size) := Lib.hid fun j hj => ⟨Nat.le_trans (by first | exact Nat.le_refl _ | (simp; done) | (simp; omega)) (own.bd j hj).1, (own.bd j hj).2⟩
  have hz8 : w7.heap.size ≤ w8.heap.size := Nat.le_trans (by first | exact Nat.le_refl _ | (simp; done) | (simp; omega)) hb.size
  replace R0 := R0.below hb HB.size
  replace O3 := O3.all hb
  replace P3 := P3.all hb
  replace O4 := O4.all hb
  replace O5 := O5.all hb
  replace P5 := P5.all hb
  replace own := own.mono HB.size
  replace HB := HB.trans (hb.mono HB.size)
  clear hb
  have O8 := own; clear own
  go_wp2_with fail
  refine (eqWeaverS_same _ _ _ _ _ _ _ _ xs0 _ O4.rd O8.rd (Nat.le_refl _) (Nat.le_refl _)).mono ?_
  rintro e w9 ⟨rfl, hb⟩
  have hz9 : w8.heap.size ≤ w9.heap.size := Nat.le_trans (by first | exact Nat.le_refl _ | (simp; done) | (simp; omega)) hb.size
  replace R0 := R0.below hb HB.size
  replace O3 := O3.all hb
  replace P3 := P3.all hb
  replace O4 := O4.all hb
  replace O5 := O5.all hb
  replace P5 := P5.all hb
  replace O8 := O8.all hb
  replace HB := HB.trans (hb.mono HB.size)
  clear hb
  clear O8 Ob8
  go_wp2_with fail
  refine (markWeaverS_any _ _ _ _ _ O4 (by omega) (by omega) (by omega)).mono ?_
  rintro e w10 ⟨rfl, own, hg⟩
  have hz10 : w9.heap.size ≤ w10.heap.size := hg.size
  replace R0 := R0.mark hg (fun j hj => by have := (Ob4.out j hj).1; omega) HB.size
  replace O3 := O3.mark hg (fun j j' hj hj' => by have := Ob4.out j hj; have := Ob3.out j' hj'; omega)
  replace P3 := P3.mark hg (fun j j' hj hj' => by have := Ob4.out j hj; have := Pb3.out j' hj'; omega)
  replace O5 := O5.mark hg (fun j j' hj hj' => by have := Ob4.out j hj; have := Ob5.out j' hj'; omega)
  replace P5 := P5.mark hg (fun j j' hj hj' => by have := Ob4.out j hj; have := Pb5.out j' hj'; omega)
  replace HB := HB.grown hg HB.size (fun j hj => by have := (Ob4.out j hj).1; omega)
  replace O4 := own; clear own hg
  go_wp2_with fail
  refine (eqIntS_low _ _ _ _ _ _ _ _ ys _ O5.rd O3.rd).mono ?_
  rintro e w11 ⟨rfl, hb⟩
  have hz11 : w10.heap.size ≤ w11.heap.size := Nat.le_trans (by first | exact Nat.le_refl _ | (simp; done) | (simp; omega)) hb.size
  replace R0 := R0.below hb HB.size
  replace O3 := O3.all hb
  replace P3 := P3.all hb
  replace O4 := O4.all hb
  replace O5 := O5.all hb
  replace P5 := P5.all hb
  replace HB := HB.trans (hb.mono HB.size)
  clear hb
  go_wp2_with fail
  refine (eqIntS_low _ _ _ _ _ _ _ _ zs _ P5.rd P3.rd).mono ?_
  rintro e w12 ⟨rfl, hb⟩
  have hz12 : w11.heap.size ≤ w12.heap.size := Nat.le_trans (by first | exact Nat.le_refl _ | (simp; done) | (simp; omega)) hb.size
  replace R0 := R0.below hb HB.size
  replace O3 := O3.all hb
  replace P3 := P3.all hb
  replace O4 := O4.all hb
  replace O5 := O5.all hb
  replace P5 := P5.all hb
  replace HB := HB.trans (hb.mono HB.size)
  clear hb
  go_wp2_with fail
  refine (markIntS_any _ _ _ _ _ O5 (by omega) (by omega) (by omega)).mono ?_
  rintro e w13 ⟨rfl, own, hg⟩
  have hz13 : w12.heap.size ≤ w13.heap.size := hg.size
  replace R0 := R0.mark hg (fun j hj => by have := (Ob5.out j hj).1; omega) HB.size
  replace O3 := O3.mark hg (fun j j' hj hj' => by have := Ob5.out j hj; have := Ob3.out j' hj'; omega)
  replace P3 := P3.mark hg (fun j j' hj hj' => by have := Ob5.out j hj; have := Pb3.out j' hj'; omega)
  replace O4 := O4.mark hg (fun j j' hj hj' => by have := Ob5.out j hj; have := Ob4.out j' hj'; omega)
  replace P5 := P5.mark hg (fun j j' hj hj' e => by subst e; exact D5.out j hj hj')
  replace HB := HB.grown hg HB.size (fun j hj => by have := (Ob5.out j hj).1; omega)
  replace O5 := own; clear own hg
  go_wp2_with fail
  refine (markIntS_any _ _ _ _ _ P5 (by omega) (by omega) (by omega)).mono ?_
  rintro e w14 ⟨rfl, own, hg⟩
  have hz14 : w13.heap.size ≤ w14.heap.size := hg.size
  replace R0 := R0.mark hg (fun j hj => by have := (Pb5.out j hj).1; omega) HB.size
  replace O3 := O3.mark hg (fun j j' hj hj' => by have := Pb5.out j hj; have := Ob3.out j' hj'; omega)
  replace P3 := P3.mark hg (fun j j' hj hj' => by have := Pb5.out j hj; have := Pb3.out j' hj'; omega)
  replace O4 := O4.mark hg (fun j j' hj hj' => by have := Pb5.out j hj; have := Ob4.out j' hj'; omega)
  replace O5 := O5.mark hg (fun j j' hj hj' e => by subst e; exact D5.out j hj' hj)
  replace HB := HB.grown hg HB.size (fun j hj => by have := (Pb5.out j hj).1; omega)
  replace P5 := own; clear own hg
  go_wp2_with fail
  refine (heldIntS_low _ _ _ _ _ _ O5.rd (by omega) (by omega) (by omega)).mono ?_
  rintro e w15 ⟨rfl, hb⟩
  have hz15 : w14.heap.size ≤ w15.heap.size := Nat.le_trans (by first | exact Nat.le_refl _ | (simp; done) | (simp; omega)) hb.size
  replace R0 := R0.below hb HB.size
  replace O3 := O3.all hb
  replace P3 := P3.all hb
  replace O4 := O4.all hb
  replace O5 := O5.all hb
  replace P5 := P5.all hb
  replace HB := HB.trans (hb.mono HB.size)
  clear hb
  go_wp2_with fail
  refine (heldIntS_low _ _ _ _ _ _ P5.rd (by omega) (by omega) (by omega)).mono ?_
  rintro e w16 ⟨rfl, hb⟩
  have hz16 : w15.heap.size ≤ w16.heap.size := Nat.le_trans (by first | exact Nat.le_refl _ | (simp; done) | (simp; omega)) hb.size
  replace R0 := R0.below hb HB.size
  replace O3 := O3.all hb
  replace P3 := P3.all hb
  replace O4 := O4.all hb
  replace O5 := O5.all hb
  replace P5 := P5.all hb
  replace HB := HB.trans (hb.mono HB.size)
  clear hb
  go_wp2_with fail
  refine (toWeaverS_any A0 xs0.length c0 _ xs0 _ R0 HB.size (by omega)).mono ?_
  rintro e w17 ⟨g17, rfl, own, hb⟩
  have Ob17 : Hid (∀ j, (Value.slice (some ⟨g17, 0, none⟩) xs0.length xs0.length).ownBlock = some j → w16.heap.size ≤ j ∧ j < w17.heap.size) := Lib.hid fun j hj => ⟨Nat.le_trans (by first | exact Nat.le_refl _ | (simp; done) | (simp; omega)) (own.bd j hj).1, (own.bd j hj).2⟩
  have hz17 : w16.heap.size ≤ w17.heap.size := Nat.le_trans (by first | exact Nat.le_refl _ | (simp; done) | (simp; omega)) hb.size
  replace R0 := R0.below hb HB.size
  replace O3 := O3.all hb
  replace P3 := P3.all hb
  replace O4 := O4.all hb
  replace O5 := O5.all hb
  replace P5 := P5.all hb
  replace own := own.mono HB.size
  replace HB := HB.trans (hb.mono HB.size)
  clear hb
  have O17 := own; clear own
  go_wp2_with fail
  refine (himpl.out _ _ _ O17.rd).mono ?_
  rintro e w18 ⟨A_18, c_18, P_18, d_18, rfl, own, ownb, hD, hb⟩
  have Ob18 : Hid (∀ j, (Value.slice A_18 ys.length c_18).ownBlock = some j → w17.heap.size ≤ j ∧ j < w18.heap.size) := Lib.hid fun j hj => ⟨Nat.le_trans (by first | exact Nat.le_refl _ | (simp; done) | (simp; omega)) (own.bd j hj).1, (own.bd j hj).2⟩
  have Pb18 : Hid (∀ j, (Value.slice P_18 zs.length d_18).ownBlock = some j → w17.heap.size ≤ j ∧ j < w18.heap.size) := Lib.hid fun j hj => ⟨Nat.le_trans (by first | exact Nat.le_refl _ | (simp; done) | (simp; omega)) (ownb.bd j hj).1, (ownb.bd j hj).2⟩
  replace ownb := ownb.mono HB.size
  have hz18 : w17.heap.size ≤ w18.heap.size := Nat.le_trans (by first | exact Nat.le_refl _ | (simp; done) | (simp; omega)) hb.size
  replace R0 := R0.below hb HB.size
  replace O3 := O3.all hb
  replace P3 := P3.all hb
  replace O4 := O4.all hb
  replace O5 := O5.all hb
  replace P5 := P5.all hb
  replace O17 := O17.all hb
  replace own := own.mono HB.size
  replace HB := HB.trans (hb.mono HB.size)
  clear hb
  have O18 := own; have P18 := ownb; have D18 := Lib.hid hD; clear own ownb hD
  clear O17 Ob17
  go_wp2_with fail
  refine (eqIntS_low _ _ _ _ _ _ _ _ ys _ O18.rd O3.rd).mono ?_
  rintro e w19 ⟨rfl, hb⟩
  have hz19 : w18.heap.size ≤ w19.heap.size := Nat.le_trans (by first | exact Nat.le_refl _ | (simp; done) | (simp; omega)) hb.size
  replace R0 := R0.below hb HB.size
  replace O3 := O3.all hb
  replace P3 := P3.all hb
  replace O4 := O4.all hb
  replace O5 := O5.all hb
  replace P5 := P5.all hb
  replace O18 := O18.all hb
  replace P18 := P18.all hb
  replace HB := HB.trans (hb.mono HB.size)
  clear hb
  go_wp2_with fail
  refine (eqIntS_low _ _ _ _ _ _ _ _ zs _ P18.rd P3.rd).mono ?_
  rintro e w20 ⟨rfl, hb⟩
  have hz20 : w19.heap.size ≤ w20.heap.size := Nat.le_trans (by first | exact Nat.le_refl _ | (simp; done) | (simp; omega)) hb.size
  replace R0 := R0.below hb HB.size
  replace O3 := O3.all hb
  replace P3 := P3.all hb
  replace O4 := O4.all hb
  replace O5 := O5.all hb
  replace P5 := P5.all hb
  replace O18 := O18.all hb
  replace P18 := P18.all hb
  replace HB := HB.trans (hb.mono HB.size)
  clear hb
  go_wp2_with fail
  refine (heldIntS_low _ _ _ _ _ _ O5.rd (by omega) (by omega) (by omega)).mono ?_
  rintro e w21 ⟨rfl, hb⟩
  have hz21 : w20.heap.size ≤ w21.heap.size := Nat.le_trans (by first | exact Nat.le_refl _ | (simp; done) | (simp; omega)) hb.size
  replace R0 := R0.below hb HB.size
  replace O3 := O3.all hb
  replace P3 := P3.all hb
  replace O4 := O4.all hb
  replace O5 := O5.all hb
  replace P5 := P5.all hb
  replace O18 := O18.all hb
  replace P18 := P18.all hb
  replace HB := HB.trans (hb.mono HB.size)
  clear hb
  go_wp2_with fail
  refine (heldIntS_low _ _ _ _ _ _ P5.rd (by omega) (by omega) (by omega)).mono ?_
  rintro e w22 ⟨rfl, hb⟩
  have hz22 : w21.heap.size ≤ w22.heap.size := Nat.le_trans (by first | exact Nat.le_refl _ | (simp; done) | (simp; omega)) hb.size
  replace R0 := R0.below hb HB.size
  replace O3 := O3.all hb
  replace P3 := P3.all hb
  replace O4 := O4.all hb
  replace O5 := O5.all hb
  replace P5 := P5.all hb
  replace O18 := O18.all hb
  replace P18 := P18.all hb
  replace HB := HB.trans (hb.mono HB.size)
  clear hb
  go_wp2_with fail
  go_ret
  exact ⟨rfl, HB⟩

set_option maxRecDepth 100000 in
set_option maxHeartbeats 2000000 in
theorem big (w : World) (A0 : Option Addr) (n0 c0 : Nat) (xs0 : List WeaverR) (h0 : RdF weaverL w w.heap.size A0 n0 c0 xs0) (hs : ¬ (n0 + bulkWeaver xs0) ≤ 1048576) : Calls Try.prog 12 #[.slice A0 n0 c0] w fun e w' => e = .returned (.bool true) ∧ Below w.heap.size w w' := by
  have len0 := h0.len_lt
  have l0 := h0.len; subst l0
  have q0 : 0 ≤ ((xs0.length + bulkWeaver xs0 : Nat) : Int) := by omega
  have HB : Below w.heap.size w w := Below.refl _ _
  have R0 := h0
  go_enter Try.func12, Try.ntmps12
  go_wp2_with fail
  refine (szWeaverS_no A0 xs0.length c0 _ xs0 _ _ R0 HB.size (by omega) (by omega) (by omega)).mono ?_
  rintro e w1 ⟨rfl, hb⟩
  replace R0 := R0.below hb HB.size
  replace HB := HB.trans (hb.mono HB.size)
  clear hb
  go_wp2_with fail
  go_ret
  exact ⟨rfl, HB⟩
theorem walk (w : World) (A0 : Option Addr) (n0 c0 : Nat) (xs0 : List WeaverR) (h0 : RdF weaverL w w.heap.size A0 n0 c0 xs0) : Calls Try.prog 12 #[.slice A0 n0 c0] w fun e w' => e = .returned (.bool true) ∧ Below w.heap.size w w' := by
  have l0 := h0.len
  by_cases hs : (n0 + bulkWeaver xs0) ≤ 1048576
  · exact core w A0 n0 c0 xs0 h0 hs _ _ _ (used11_len xs0) (Lib.hid (fun w A0 c0 h0 => specLoomsUsed_any A0 _ c0 _ xs0 w h0 (Nat.le_refl _))) (Lib.hid (fun w A0 c0 h0 => implLoomsUsed_any A0 _ c0 _ xs0 w h0 (Nat.le_refl _)))
  · exact big w A0 n0 c0 xs0 h0 hs
end Go.Proofs.Yteghebjnaggmoaa.loomsUsed
