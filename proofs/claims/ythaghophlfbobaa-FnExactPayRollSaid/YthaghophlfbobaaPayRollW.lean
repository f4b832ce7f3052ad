/- The walk of the law FnExactPayRoll. No condition. -/
import Derived.Test.YthaghophlfbobaaPay
import Derived.Test.YthaghophlfbobaaPayS
import Derived.Test.YthaghophlfbobaaWorkSheetHelp
import Derived.Test.YthaghophlfbobaaRatesHelp
namespace Go.Proofs.Ythaghophlfbobaa.payRoll
open Go.RowKit

set_option maxRecDepth 100000 in
set_option maxHeartbeats 2000000 in
theorem core (w : World) (s0 : RatesR) (A1 : Option Addr) (n1 c1 : Nat) (xs1 : List WorkSheetR) (h1 : RdF workSheetL w w.heap.size A1 n1 c1 xs1) (hs : (n1) ≤ 1048576) (ys : List Int) (zs : List Int) (r2 : Bool) (hl : ys.length ≤ 100000 ∧ zs.length ≤ 100000) (hspec : Hid (∀ (w : World) (A1 : Option Addr) (c1 : Nat), RdF workSheetF w w.heap.size A1 xs1.length c1 xs1 → Calls Try.prog 28 #[.agg #[.int .i64 s0.f0, .int .i64 s0.f1, .int .i64 s0.f2, .int .i64 s0.f3, .int .i64 s0.f4], .slice A1 xs1.length c1] w (OutInts2 w ys zs r2))) (himpl : Hid (∀ (w : World) (A1 : Option Addr) (c1 : Nat), RdF workSheetF w w.heap.size A1 xs1.length c1 xs1 → Calls Try.prog 29 #[.agg #[.int .i64 s0.f0, .int .i64 s0.f1, .int .i64 s0.f2, .int .i64 s0.f3, .int .i64 s0.f4], .slice A1 xs1.length c1] w (OutInts2 w ys zs r2))) :
    Calls Try.prog 8 #[.agg #[.int .i64 s0.f0, .int .i64 s0.f1, .int .i64 s0.f2, .int .i64 s0.f3, .int .i64 s0.f4], .slice A1 n1 c1] w fun e w' => e = .returned (.bool true) ∧ Below w.heap.size w w' := by
  have q1 : 0 ≤ ((n1 : Nat) : Int) := by omega
  have l1 := h1.len; subst l1
  have y0 : Blk (w.alloc (.cells #[.int .i64 s0.f0, .int .i64 s0.f1, .int .i64 s0.f2, .int .i64 s0.f3, .int .i64 s0.f4] 36)) (w.heap.size) 36 #[.int .i64 s0.f0, .int .i64 s0.f1, .int .i64 s0.f2, .int .i64 s0.f3, .int .i64 s0.f4] := (Blk.new w #[.int .i64 s0.f0, .int .i64 s0.f1, .int .i64 s0.f2, .int .i64 s0.f3, .int .i64 s0.f4] 36).at_ (by simp)
  have HB : Below w.heap.size w (w.alloc (.cells #[.int .i64 s0.f0, .int .i64 s0.f1, .int .i64 s0.f2, .int .i64 s0.f3, .int .i64 s0.f4] 36)) := (Below.refl _ _).alloc (by first | (simp; done) | (simp; omega)) _
  have R1 := (h1).alloc (by first | (simp; done) | (simp; omega)) (.cells #[.int .i64 s0.f0, .int .i64 s0.f1, .int .i64 s0.f2, .int .i64 s0.f3, .int .i64 s0.f4] 36)
  clear h1
  have hz0 : w.heap.size ≤ (w.alloc (.cells #[.int .i64 s0.f0, .int .i64 s0.f1, .int .i64 s0.f2, .int .i64 s0.f3, .int .i64 s0.f4] 36)).heap.size := HB.size
  have zy0 := y0.lt
  go_enter Try.func8, Try.ntmps8
  have ey00 := y0.cell 0
  have ey01 := y0.cell 1
  have ey02 := y0.cell 2
  have ey03 := y0.cell 3
  have ey04 := y0.cell 4
  have zy0 := y0.lt
  go_wp2_with fail
  refine (szWorkSheetS_yes A1 xs1.length c1 _ _ (by omega) (by omega)).mono ?_
  rintro e w1 ⟨rfl, hb⟩
  clear ey00 ey01 ey02 ey03 ey04 zy0
  have hz1 : (w.alloc (.cells #[.int .i64 s0.f0, .int .i64 s0.f1, .int .i64 s0.f2, .int .i64 s0.f3, .int .i64 s0.f4] 36)).heap.size ≤ w1.heap.size := Nat.le_trans (by first | exact Nat.le_refl _ | (simp; done) | (simp; omega)) hb.size
  replace y0 := y0.all hb
  replace R1 := R1.below hb HB.size
  replace HB := HB.trans (hb.mono HB.size)
  clear hb
  have ey00 := y0.cell 0
  have ey01 := y0.cell 1
  have ey02 := y0.cell 2
  have ey03 := y0.cell 3
  have ey04 := y0.cell 4
  have zy0 := y0.lt
  go_wp2_with fail
  refine (toRates_any s0 _).mono ?_
  rintro e w2 ⟨rfl, hb⟩
  clear ey00 ey01 ey02 ey03 ey04 zy0
  have hz2 : w1.heap.size ≤ w2.heap.size := Nat.le_trans (by first | exact Nat.le_refl _ | (simp; done) | (simp; omega)) hb.size
  replace y0 := y0.all hb
  replace R1 := R1.below hb HB.size
  replace HB := HB.trans (hb.mono HB.size)
  clear hb
  have ey00 := y0.cell 0
  have ey01 := y0.cell 1
  have ey02 := y0.cell 2
  have ey03 := y0.cell 3
  have ey04 := y0.cell 4
  have zy0 := y0.lt
  go_wp2_with fail
  refine (toWorkSheetS_any A1 xs1.length c1 _ xs1 _ R1 HB.size (by omega)).mono ?_
  rintro e w3 ⟨g3, rfl, own, hb⟩
  clear ey00 ey01 ey02 ey03 ey04 zy0
  have Ob3 : Hid (∀ j, (Value.slice (some ⟨g3, 0, none⟩) xs1.length xs1.length).ownBlock = some j → w2.heap.size ≤ j ∧ j < w3.heap.size) := Lib.hid fun j hj => ⟨Nat.le_trans (by first | exact Nat.le_refl _ | (simp; done) | (simp; omega)) (own.bd j hj).1, (own.bd j hj).2⟩
  have hz3 : w2.heap.size ≤ w3.heap.size := Nat.le_trans (by first | exact Nat.le_refl _ | (simp; done) | (simp; omega)) hb.size
  replace y0 := y0.all hb
  replace R1 := R1.below hb HB.size
  replace own := own.mono HB.size
  replace HB := HB.trans (hb.mono HB.size)
  clear hb
  have O3 := own; clear own
  have ey00 := y0.cell 0
  have ey01 := y0.cell 1
  have ey02 := y0.cell 2
  have ey03 := y0.cell 3
  have ey04 := y0.cell 4
  have zy0 := y0.lt
  go_wp2_with fail
  refine (hspec.out _ _ _ O3.rd).mono ?_
  rintro e w4 ⟨A_4, c_4, P_4, d_4, rfl, own, ownb, hD, hb⟩
  clear ey00 ey01 ey02 ey03 ey04 zy0
  have Ob4 : Hid (∀ j, (Value.slice A_4 ys.length c_4).ownBlock = some j → w3.heap.size ≤ j ∧ j < w4.heap.size) := Lib.hid fun j hj => ⟨Nat.le_trans (by first | exact Nat.le_refl _ | (simp; done) | (simp; omega)) (own.bd j hj).1, (own.bd j hj).2⟩
  have Pb4 : Hid (∀ j, (Value.slice P_4 zs.length d_4).ownBlock = some j → w3.heap.size ≤ j ∧ j < w4.heap.size) := Lib.hid fun j hj => ⟨Nat.le_trans (by first | exact Nat.le_refl _ | (simp; done) | (simp; omega)) (ownb.bd j hj).1, (ownb.bd j hj).2⟩
  replace ownb := ownb.mono HB.size
  have hz4 : w3.heap.size ≤ w4.heap.size := Nat.le_trans (by first | exact Nat.le_refl _ | (simp; done) | (simp; omega)) hb.size
  replace y0 := y0.all hb
  replace R1 := R1.below hb HB.size
  replace O3 := O3.all hb
  replace own := own.mono HB.size
  replace HB := HB.trans (hb.mono HB.size)
  clear hb
  have O4 := own; have P4 := ownb; have D4 := Lib.hid hD; clear own ownb hD
  clear O3 Ob3
  have ey00 := y0.cell 0
  have ey01 := y0.cell 1
  have ey02 := y0.cell 2
  have ey03 := y0.cell 3
  have ey04 := y0.cell 4
  have zy0 := y0.lt
  go_wp2_with fail
  refine (toWorkSheetS_any A1 xs1.length c1 _ xs1 _ R1 HB.size (by omega)).mono ?_
  rintro e w5 ⟨g5, rfl, own, hb⟩
  clear ey00 ey01 ey02 ey03 ey04 zy0
  have Ob5 : Hid (∀ j, (Value.slice (some ⟨g5, 0, none⟩) xs1.length xs1.length).ownBlock = some j → w4.heap.size ≤ j ∧ j < w5.heap.size) := Lib.hid fun j hj => ⟨Nat.le_trans (by first | exact Nat.le_refl _ | (simp; done) | (simp; omega)) (own.bd j hj).1, (own.bd j hj).2⟩
  have hz5 : w4.heap.size ≤ w5.heap.size := Nat.le_trans (by first | exact Nat.le_refl _ | (simp; done) | (simp; omega)) hb.size
  replace y0 := y0.all hb
  replace R1 := R1.below hb HB.size
  replace O4 := O4.all hb
  replace P4 := P4.all hb
  replace own := own.mono HB.size
  replace HB := HB.trans (hb.mono HB.size)
  clear hb
  have O5 := own; clear own
  have ey00 := y0.cell 0
  have ey01 := y0.cell 1
  have ey02 := y0.cell 2
  have ey03 := y0.cell 3
  have ey04 := y0.cell 4
  have zy0 := y0.lt
  go_wp2_with fail
  refine (toRates_any s0 _).mono ?_
  rintro e w6 ⟨rfl, hb⟩
  clear ey00 ey01 ey02 ey03 ey04 zy0
  have hz6 : w5.heap.size ≤ w6.heap.size := Nat.le_trans (by first | exact Nat.le_refl _ | (simp; done) | (simp; omega)) hb.size
  replace y0 := y0.all hb
  replace R1 := R1.below hb HB.size
  replace O4 := O4.all hb
  replace P4 := P4.all hb
  replace O5 := O5.all hb
  replace HB := HB.trans (hb.mono HB.size)
  clear hb
  have ey00 := y0.cell 0
  have ey01 := y0.cell 1
  have ey02 := y0.cell 2
  have ey03 := y0.cell 3
  have ey04 := y0.cell 4
  have zy0 := y0.lt
  go_wp2_with fail
  refine (himpl.out _ _ _ O5.rd).mono ?_
  rintro e w7 ⟨A_7, c_7, P_7, d_7, rfl, own, ownb, hD, hb⟩
  clear ey00 ey01 ey02 ey03 ey04 zy0
  have Ob7 : Hid (∀ j, (Value.slice A_7 ys.length c_7).ownBlock = some j → w6.heap.size ≤ j ∧ j < w7.heap.size) := Lib.hid fun j hj => ⟨Nat.le_trans (by first | exact Nat.le_refl _ | (simp; done) | (simp; omega)) (own.bd j hj).1, (own.bd j hj).2⟩
  have Pb7 : Hid (∀ j, (Value.slice P_7 zs.length d_7).ownBlock = some j → w6.heap.size ≤ j ∧ j < w7.heap.size) := Lib.hid fun j hj => ⟨Nat.le_trans (by first | exact Nat.le_refl _ | (simp; done) | (simp; omega)) (ownb.bd j hj).1, (ownb.bd j hj).2⟩
  replace ownb := ownb.mono HB.size
  have hz7 : w6.heap.size ≤ w7.heap.size := Nat.le_trans (by first | exact Nat.le_refl _ | (simp; done) | (simp; omega)) hb.size
  replace y0 := y0.all hb
  replace R1 := R1.below hb HB.size
  replace O4 := O4.all hb
  replace P4 := P4.all hb
  replace O5 := O5.all hb
  replace own := own.mono HB.size
  replace HB := HB.trans (hb.mono HB.size)
  clear hb
  have O7 := own; have P7 := ownb; have D7 := Lib.hid hD; clear own ownb hD
  have ey00 := y0.cell 0
  have ey01 := y0.cell 1
  have ey02 := y0.cell 2
  have ey03 := y0.cell 3
  have ey04 := y0.cell 4
  have zy0 := y0.lt
  go_wp2_with fail
  refine (eqIntS_low _ _ _ _ _ _ _ _ ys _ O7.rd O4.rd).mono ?_
  rintro e w8 ⟨rfl, hb⟩
  clear ey00 ey01 ey02 ey03 ey04 zy0
  have hz8 : w7.heap.size ≤ w8.heap.size := Nat.le_trans (by first | exact Nat.le_refl _ | (simp; done) | (simp; omega)) hb.size
  replace y0 := y0.all hb
  replace R1 := R1.below hb HB.size
  replace O4 := O4.all hb
  replace P4 := P4.all hb
  replace O5 := O5.all hb
  replace O7 := O7.all hb
  replace P7 := P7.all hb
  replace HB := HB.trans (hb.mono HB.size)
  clear hb
  have ey00 := y0.cell 0
  have ey01 := y0.cell 1
  have ey02 := y0.cell 2
  have ey03 := y0.cell 3
  have ey04 := y0.cell 4
  have zy0 := y0.lt
  go_wp2_with fail
  refine (eqIntS_low _ _ _ _ _ _ _ _ zs _ P7.rd P4.rd).mono ?_
  rintro e w9 ⟨rfl, hb⟩
  clear ey00 ey01 ey02 ey03 ey04 zy0
  have hz9 : w8.heap.size ≤ w9.heap.size := Nat.le_trans (by first | exact Nat.le_refl _ | (simp; done) | (simp; omega)) hb.size
  replace y0 := y0.all hb
  replace R1 := R1.below hb HB.size
  replace O4 := O4.all hb
  replace P4 := P4.all hb
  replace O5 := O5.all hb
  replace O7 := O7.all hb
  replace P7 := P7.all hb
  replace HB := HB.trans (hb.mono HB.size)
  clear hb
  have ey00 := y0.cell 0
  have ey01 := y0.cell 1
  have ey02 := y0.cell 2
  have ey03 := y0.cell 3
  have ey04 := y0.cell 4
  have zy0 := y0.lt
  go_wp2_with fail
  refine (toWorkSheetS_any A1 xs1.length c1 _ xs1 _ R1 HB.size (by omega)).mono ?_
  rintro e w10 ⟨g10, rfl, own, hb⟩
  clear ey00 ey01 ey02 ey03 ey04 zy0
  have Ob10 : Hid (∀ j, (Value.slice (some ⟨g10, 0, none⟩) xs1.length xs1.length).ownBlock = some j → w9.heap.size ≤ j ∧ j < w10.heap.size) := Lib.hid fun j hj => ⟨Nat.le_trans (by first | exact Nat.le_refl _ | (simp; done) | (simp; omega)) (own.bd j hj).1, (own.bd j hj).2⟩
  have hz10 : w9.heap.size ≤ w10.heap.size := Nat.le_trans (by first | exact Nat.le_refl _ | (simp; done) | (simp; omega)) hb.size
  replace y0 := y0.all hb
  replace R1 := R1.below hb HB.size
  replace O4 := O4.all hb
  replace P4 := P4.all hb
  replace O5 := O5.all hb
  replace O7 := O7.all hb
  replace P7 := P7.all hb
  replace own := own.mono HB.size
  replace HB := HB.trans (hb.mono HB.size)
  clear hb
  have O10 := own; clear own
  have ey00 := y0.cell 0
  have ey01 := y0.cell 1
  have ey02 := y0.cell 2
  have ey03 := y0.cell 3
  have ey04 := y0.cell 4
  have zy0 := y0.lt
  go_wp2_with fail
  refine (eqWorkSheetS_same _ _ _ _ _ _ _ _ xs1 _ O5.rd O10.rd (Nat.le_refl _) (Nat.le_refl _)).mono ?_
  rintro e w11 ⟨rfl, hb⟩
  clear ey00 ey01 ey02 ey03 ey04 zy0
  have hz11 : w10.heap.size ≤ w11.heap.size := Nat.le_trans (by first | exact Nat.le_refl _ | (simp; done) | (simp; omega)) hb.size
  replace y0 := y0.all hb
  replace R1 := R1.below hb HB.size
  replace O4 := O4.all hb
  replace P4 := P4.all hb
  replace O5 := O5.all hb
  replace O7 := O7.all hb
  replace P7 := P7.all hb
  replace O10 := O10.all hb
  replace HB := HB.trans (hb.mono HB.size)
  clear hb
  clear O10 Ob10
  have ey00 := y0.cell 0
  have ey01 := y0.cell 1
  have ey02 := y0.cell 2
  have ey03 := y0.cell 3
  have ey04 := y0.cell 4
  have zy0 := y0.lt
  go_wp2_with fail
  refine (markWorkSheetS_any _ _ _ _ _ O5 (by omega) (by omega) (by omega)).mono ?_
  rintro e w12 ⟨rfl, own, hg⟩
  clear ey00 ey01 ey02 ey03 ey04 zy0
  have hz12 : w11.heap.size ≤ w12.heap.size := hg.size
  replace y0 := y0.mark hg (fun j hj e => by have h1 := (Ob5.out j hj).1; rw [e] at h1; omega)
  replace R1 := R1.mark hg (fun j hj => by have := (Ob5.out j hj).1; omega) HB.size
  replace O4 := O4.mark hg (fun j j' hj hj' => by have := Ob5.out j hj; have := Ob4.out j' hj'; omega)
  replace P4 := P4.mark hg (fun j j' hj hj' => by have := Ob5.out j hj; have := Pb4.out j' hj'; omega)
  replace O7 := O7.mark hg (fun j j' hj hj' => by have := Ob5.out j hj; have := Ob7.out j' hj'; omega)
  replace P7 := P7.mark hg (fun j j' hj hj' => by have := Ob5.out j hj; have := Pb7.out j' hj'; omega)
  replace HB := HB.grown hg HB.size (fun j hj => by have := (Ob5.out j hj).1; omega)
  replace O5 := own; clear own hg
  have ey00 := y0.cell 0
  have ey01 := y0.cell 1
  have ey02 := y0.cell 2
  have ey03 := y0.cell 3
  have ey04 := y0.cell 4
  have zy0 := y0.lt
  go_wp2_with fail
  refine (eqIntS_low _ _ _ _ _ _ _ _ ys _ O7.rd O4.rd).mono ?_
  rintro e w13 ⟨rfl, hb⟩
  clear ey00 ey01 ey02 ey03 ey04 zy0
  have hz13 : w12.heap.size ≤ w13.heap.size := Nat.le_trans (by first | exact Nat.le_refl _ | (simp; done) | (simp; omega)) hb.size
  replace y0 := y0.all hb
  replace R1 := R1.below hb HB.size
  replace O4 := O4.all hb
  replace P4 := P4.all hb
  replace O5 := O5.all hb
  replace O7 := O7.all hb
  replace P7 := P7.all hb
  replace HB := HB.trans (hb.mono HB.size)
  clear hb
  have ey00 := y0.cell 0
  have ey01 := y0.cell 1
  have ey02 := y0.cell 2
  have ey03 := y0.cell 3
  have ey04 := y0.cell 4
  have zy0 := y0.lt
  go_wp2_with fail
  refine (eqIntS_low _ _ _ _ _ _ _ _ zs _ P7.rd P4.rd).mono ?_
  rintro e w14 ⟨rfl, hb⟩
  clear ey00 ey01 ey02 ey03 ey04 zy0
  have hz14 : w13.heap.size ≤ w14.heap.size := Nat.le_trans (by first | exact Nat.le_refl _ | (simp; done) | (simp; omega)) hb.size
  replace y0 := y0.all hb
  replace R1 := R1.below hb HB.size
  replace O4 := O4.all hb
  replace P4 := P4.all hb
  replace O5 := O5.all hb
  replace O7 := O7.all hb
  replace P7 := P7.all hb
  replace HB := HB.trans (hb.mono HB.size)
  clear hb
  have ey00 := y0.cell 0
  have ey01 := y0.cell 1
  have ey02 := y0.cell 2
  have ey03 := y0.cell 3
  have ey04 := y0.cell 4
  have zy0 := y0.lt
  go_wp2_with fail
  refine (markIntS_any _ _ _ _ _ O7 (by omega) (by omega) (by omega)).mono ?_
  rintro e w15 ⟨rfl, own, hg⟩
  clear ey00 ey01 ey02 ey03 ey04 zy0
  have hz15 : w14.heap.size ≤ w15.heap.size := hg.size
  replace y0 := y0.mark hg (fun j hj e => by have h1 := (Ob7.out j hj).1; rw [e] at h1; omega)
  replace R1 := R1.mark hg (fun j hj => by have := (Ob7.out j hj).1; omega) HB.size
  replace O4 := O4.mark hg (fun j j' hj hj' => by have := Ob7.out j hj; have := Ob4.out j' hj'; omega)
  replace P4 := P4.mark hg (fun j j' hj hj' => by have := Ob7.out j hj; have := Pb4.out j' hj'; omega)
  replace O5 := O5.mark hg (fun j j' hj hj' => by have := Ob7.out j hj; have := Ob5.out j' hj'; omega)
  replace P7 := P7.mark hg (fun j j' hj hj' e => by subst e; exact D7.out j hj hj')
  replace HB := HB.grown hg HB.size (fun j hj => by have := (Ob7.out j hj).1; omega)
  replace O7 := own; clear own hg
  have ey00 := y0.cell 0
  have ey01 := y0.cell 1
  have ey02 := y0.cell 2
  have ey03 := y0.cell 3
  have ey04 := y0.cell 4
  have zy0 := y0.lt
  go_wp2_with fail
  refine (markIntS_any _ _ _ _ _ P7 (by omega) (by omega) (by omega)).mono ?_
  rintro e w16 ⟨rfl, own, hg⟩
  clear ey00 ey01 ey02 ey03 ey04 zy0
  have hz16 : w15.heap.size ≤ w16.heap.size := hg.size
  replace y0 := y0.mark hg (fun j hj e => by have h1 := (Pb7.out j hj).1; rw [e] at h1; omega)
  replace R1 := R1.mark hg (fun j hj => by have := (Pb7.out j hj).1; omega) HB.size
  replace O4 := O4.mark hg (fun j j' hj hj' => by have := Pb7.out j hj; have := Ob4.out j' hj'; omega)
  replace P4 := P4.mark hg (fun j j' hj hj' => by have := Pb7.out j hj; have := Pb4.out j' hj'; omega)
  replace O5 := O5.mark hg (fun j j' hj hj' => by have := Pb7.out j hj; have := Ob5.out j' hj'; omega)
  replace O7 := O7.mark hg (fun j j' hj hj' e => by subst e; exact D7.out j hj' hj)
  replace HB := HB.grown hg HB.size (fun j hj => by have := (Pb7.out j hj).1; omega)
  replace P7 := own; clear own hg
  have ey00 := y0.cell 0
  have ey01 := y0.cell 1
  have ey02 := y0.cell 2
  have ey03 := y0.cell 3
  have ey04 := y0.cell 4
  have zy0 := y0.lt
  go_wp2_with fail
  refine (heldIntS_low _ _ _ _ _ _ O7.rd (by omega) (by omega) (by omega)).mono ?_
  rintro e w17 ⟨rfl, hb⟩
  clear ey00 ey01 ey02 ey03 ey04 zy0
  have hz17 : w16.heap.size ≤ w17.heap.size := Nat.le_trans (by first | exact Nat.le_refl _ | (simp; done) | (simp; omega)) hb.size
  replace y0 := y0.all hb
  replace R1 := R1.below hb HB.size
  replace O4 := O4.all hb
  replace P4 := P4.all hb
  replace O5 := O5.all hb
  replace O7 := O7.all hb
  replace P7 := P7.all hb
  replace HB := HB.trans (hb.mono HB.size)
  clear hb
  have ey00 := y0.cell 0
  have ey01 := y0.cell 1
  have ey02 := y0.cell 2
  have ey03 := y0.cell 3
  have ey04 := y0.cell 4
  have zy0 := y0.lt
  go_wp2_with fail
  refine (heldIntS_low _ _ _ _ _ _ P7.rd (by omega) (by omega) (by omega)).mono ?_
  rintro e w18 ⟨rfl, hb⟩
  clear ey00 ey01 ey02 ey03 ey04 zy0
  have hz18 : w17.heap.size ≤ w18.heap.size := Nat.le_trans (by first | exact Nat.le_refl _ | (simp; done) | (simp; omega)) hb.size
  replace y0 := y0.all hb
  replace R1 := R1.below hb HB.size
  replace O4 := O4.all hb
  replace P4 := P4.all hb
  replace O5 := O5.all hb
  replace O7 := O7.all hb
  replace P7 := P7.all hb
  replace HB := HB.trans (hb.mono HB.size)
  clear hb
  have ey00 := y0.cell 0
  have ey01 := y0.cell 1
  have ey02 := y0.cell 2
  have ey03 := y0.cell 3
  have ey04 := y0.cell 4
  have zy0 := y0.lt
  go_wp2_with fail
  refine (toRates_any s0 _).mono ?_
  rintro e w19 ⟨rfl, hb⟩
  clear ey00 ey01 ey02 ey03 ey04 zy0
  have hz19 : w18.heap.size ≤ w19.heap.size := Nat.le_trans (by first | exact Nat.le_refl _ | (simp; done) | (simp; omega)) hb.size
  replace y0 := y0.all hb
  replace R1 := R1.below hb HB.size
  replace O4 := O4.all hb
  replace P4 := P4.all hb
  replace O5 := O5.all hb
  replace O7 := O7.all hb
  replace P7 := P7.all hb
  replace HB := HB.trans (hb.mono HB.size)
  clear hb
  have ey00 := y0.cell 0
  have ey01 := y0.cell 1
  have ey02 := y0.cell 2
  have ey03 := y0.cell 3
  have ey04 := y0.cell 4
  have zy0 := y0.lt
  go_wp2_with fail
  refine (toWorkSheetS_any A1 xs1.length c1 _ xs1 _ R1 HB.size (by omega)).mono ?_
  rintro e w20 ⟨g20, rfl, own, hb⟩
  clear ey00 ey01 ey02 ey03 ey04 zy0
  have Ob20 : Hid (∀ j, (Value.slice (some ⟨g20, 0, none⟩) xs1.length xs1.length).ownBlock = some j → w19.heap.size ≤ j ∧ j < w20.heap.size) := Lib.hid fun j hj => ⟨Nat.le_trans (by first | exact Nat.le_refl _ | (simp; done) | (simp; omega)) (own.bd j hj).1, (own.bd j hj).2⟩
  have hz20 : w19.heap.size ≤ w20.heap.size := Nat.le_trans (by first | exact Nat.le_refl _ | (simp; done) | (simp; omega)) hb.size
  replace y0 := y0.all hb
  replace R1 := R1.below hb HB.size
  replace O4 := O4.all hb
  replace P4 := P4.all hb
  replace O5 := O5.all hb
  replace O7 := O7.all hb
  replace P7 := P7.all hb
  replace own := own.mono HB.size
  replace HB := HB.trans (hb.mono HB.size)
  clear hb
  have O20 := own; clear own
  have ey00 := y0.cell 0
  have ey01 := y0.cell 1
  have ey02 := y0.cell 2
  have ey03 := y0.cell 3
  have ey04 := y0.cell 4
  have zy0 := y0.lt
  go_wp2_with fail
  refine (himpl.out _ _ _ O20.rd).mono ?_
  rintro e w21 ⟨A_21, c_21, P_21, d_21, rfl, own, ownb, hD, hb⟩
  clear ey00 ey01 ey02 ey03 ey04 zy0
  have Ob21 : Hid (∀ j, (Value.slice A_21 ys.length c_21).ownBlock = some j → w20.heap.size ≤ j ∧ j < w21.heap.size) := Lib.hid fun j hj => ⟨Nat.le_trans (by first | exact Nat.le_refl _ | (simp; done) | (simp; omega)) (own.bd j hj).1, (own.bd j hj).2⟩
  have Pb21 : Hid (∀ j, (Value.slice P_21 zs.length d_21).ownBlock = some j → w20.heap.size ≤ j ∧ j < w21.heap.size) := Lib.hid fun j hj => ⟨Nat.le_trans (by first | exact Nat.le_refl _ | (simp; done) | (simp; omega)) (ownb.bd j hj).1, (ownb.bd j hj).2⟩
  replace ownb := ownb.mono HB.size
  have hz21 : w20.heap.size ≤ w21.heap.size := Nat.le_trans (by first | exact Nat.le_refl _ | (simp; done) | (simp; omega)) hb.size
  replace y0 := y0.all hb
  replace R1 := R1.below hb HB.size
  replace O4 := O4.all hb
  replace P4 := P4.all hb
  replace O5 := O5.all hb
  replace O7 := O7.all hb
  replace P7 := P7.all hb
  replace O20 := O20.all hb
  replace own := own.mono HB.size
  replace HB := HB.trans (hb.mono HB.size)
  clear hb
  have O21 := own; have P21 := ownb; have D21 := Lib.hid hD; clear own ownb hD
  clear O20 Ob20
  have ey00 := y0.cell 0
  have ey01 := y0.cell 1
  have ey02 := y0.cell 2
  have ey03 := y0.cell 3
  have ey04 := y0.cell 4
  have zy0 := y0.lt
  go_wp2_with fail
  refine (eqIntS_low _ _ _ _ _ _ _ _ ys _ O21.rd O4.rd).mono ?_
  rintro e w22 ⟨rfl, hb⟩
  clear ey00 ey01 ey02 ey03 ey04 zy0
  have hz22 : w21.heap.size ≤ w22.heap.size := Nat.le_trans (by first | exact Nat.le_refl _ | (simp; done) | (simp; omega)) hb.size
  replace y0 := y0.all hb
  replace R1 := R1.below hb HB.size
  replace O4 := O4.all hb
  replace P4 := P4.all hb
  replace O5 := O5.all hb
  replace O7 := O7.all hb
  replace P7 := P7.all hb
  replace O21 := O21.all hb
  replace P21 := P21.all hb
  replace HB := HB.trans (hb.mono HB.size)
  clear hb
  have ey00 := y0.cell 0
  have ey01 := y0.cell 1
  have ey02 := y0.cell 2
  have ey03 := y0.cell 3
  have ey04 := y0.cell 4
  have zy0 := y0.lt
  go_wp2_with fail
  refine (eqIntS_low _ _ _ _ _ _ _ _ zs _ P21.rd P4.rd).mono ?_
  rintro e w23 ⟨rfl, hb⟩
  clear ey00 ey01 ey02 ey03 ey04 zy0
  have hz23 : w22.heap.size ≤ w23.heap.size := Nat.le_trans (by first | exact Nat.le_refl _ | (simp; done) | (simp; omega)) hb.size
  replace y0 := y0.all hb
  replace R1 := R1.below hb HB.size
  replace O4 := O4.all hb
  replace P4 := P4.all hb
  replace O5 := O5.all hb
  replace O7 := O7.all hb
  replace P7 := P7.all hb
  replace O21 := O21.all hb
  replace P21 := P21.all hb
  replace HB := HB.trans (hb.mono HB.size)
  clear hb
  have ey00 := y0.cell 0
  have ey01 := y0.cell 1
  have ey02 := y0.cell 2
  have ey03 := y0.cell 3
  have ey04 := y0.cell 4
  have zy0 := y0.lt
  go_wp2_with fail
  refine (heldIntS_low _ _ _ _ _ _ O7.rd (by omega) (by omega) (by omega)).mono ?_
  rintro e w24 ⟨rfl, hb⟩
  clear ey00 ey01 ey02 ey03 ey04 zy0
  have hz24 : w23.heap.size ≤ w24.heap.size := Nat.le_trans (by first | exact Nat.le_refl _ | (simp; done) | (simp; omega)) hb.size
  replace y0 := y0.all hb
  replace R1 := R1.below hb HB.size
  replace O4 := O4.all hb
  replace P4 := P4.all hb
  replace O5 := O5.all hb
  replace O7 := O7.all hb
  replace P7 := P7.all hb
  replace O21 := O21.all hb
  replace P21 := P21.all hb
  replace HB := HB.trans (hb.mono HB.size)
  clear hb
  have ey00 := y0.cell 0
  have ey01 := y0.cell 1
  have ey02 := y0.cell 2
  have ey03 := y0.cell 3
  have ey04 := y0.cell 4
  have zy0 := y0.lt
  go_wp2_with fail
  refine (heldIntS_low _ _ _ _ _ _ P7.rd (by omega) (by omega) (by omega)).mono ?_
  rintro e w25 ⟨rfl, hb⟩
  clear ey00 ey01 ey02 ey03 ey04 zy0
  have hz25 : w24.heap.size ≤ w25.heap.size := Nat.le_trans (by first | exact Nat.le_refl _ | (simp; done) | (simp; omega)) hb.size
  replace y0 := y0.all hb
  replace R1 := R1.below hb HB.size
  replace O4 := O4.all hb
  replace P4 := P4.all hb
  replace O5 := O5.all hb
  replace O7 := O7.all hb
  replace P7 := P7.all hb
  replace O21 := O21.all hb
  replace P21 := P21.all hb
  replace HB := HB.trans (hb.mono HB.size)
  clear hb
  have ey00 := y0.cell 0
  have ey01 := y0.cell 1
  have ey02 := y0.cell 2
  have ey03 := y0.cell 3
  have ey04 := y0.cell 4
  have zy0 := y0.lt
  go_wp2_with fail
  go_ret
  exact ⟨rfl, HB⟩

set_option maxRecDepth 100000 in
set_option maxHeartbeats 2000000 in
theorem big (w : World) (s0 : RatesR) (A1 : Option Addr) (n1 c1 : Nat) (xs1 : List WorkSheetR) (h1 : RdF workSheetL w w.heap.size A1 n1 c1 xs1) (_o0 : s0.ok) (hs : ¬ (n1) ≤ 1048576) : Calls Try.prog 8 #[.agg #[.int .i64 s0.f0, .int .i64 s0.f1, .int .i64 s0.f2, .int .i64 s0.f3, .int .i64 s0.f4], .slice A1 n1 c1] w fun e w' => e = .returned (.bool true) ∧ Below w.heap.size w w' := by
  have len1 := h1.len_lt
  have l1 := h1.len; subst l1
  have q1 : 0 ≤ ((xs1.length : Nat) : Int) := by omega
  have HB : Below w.heap.size w (w.alloc (.cells #[.int .i64 s0.f0, .int .i64 s0.f1, .int .i64 s0.f2, .int .i64 s0.f3, .int .i64 s0.f4] 36)) := (Below.refl _ _).alloc (by first | (simp; done) | (simp; omega)) _
  have y0 : Blk (w.alloc (.cells #[.int .i64 s0.f0, .int .i64 s0.f1, .int .i64 s0.f2, .int .i64 s0.f3, .int .i64 s0.f4] 36)) (w.heap.size) 36 #[.int .i64 s0.f0, .int .i64 s0.f1, .int .i64 s0.f2, .int .i64 s0.f3, .int .i64 s0.f4] := (Blk.new w #[.int .i64 s0.f0, .int .i64 s0.f1, .int .i64 s0.f2, .int .i64 s0.f3, .int .i64 s0.f4] 36).at_ (by simp)
  have R1 := (h1).alloc (by first | (simp; done) | (simp; omega)) (.cells #[.int .i64 s0.f0, .int .i64 s0.f1, .int .i64 s0.f2, .int .i64 s0.f3, .int .i64 s0.f4] 36)
  go_enter Try.func8, Try.ntmps8
  have e00_1 := y0.cell 0
  have e01_1 := y0.cell 1
  have e02_1 := y0.cell 2
  have e03_1 := y0.cell 3
  have e04_1 := y0.cell 4
  go_wp2_with fail
  refine (szWorkSheetS_no A1 xs1.length c1 _ _ (by omega) (by omega) (by omega) (by omega)).mono ?_
  rintro e w1 ⟨rfl, hb⟩
  clear e00_1 e01_1 e02_1 e03_1 e04_1
  replace y0 := y0.all hb
  replace R1 := R1.below hb HB.size
  replace HB := HB.trans (hb.mono HB.size)
  clear hb
  go_wp2_with fail
  go_ret
  exact ⟨rfl, HB⟩
theorem walk (w : World) (s0 : RatesR) (A1 : Option Addr) (n1 c1 : Nat) (xs1 : List WorkSheetR) (h1 : RdF workSheetL w w.heap.size A1 n1 c1 xs1) (o0 : s0.ok) : Calls Try.prog 8 #[.agg #[.int .i64 s0.f0, .int .i64 s0.f1, .int .i64 s0.f2, .int .i64 s0.f3, .int .i64 s0.f4], .slice A1 n1 c1] w fun e w' => e = .returned (.bool true) ∧ Below w.heap.size w w' := by
  have l1 := h1.len
  by_cases hs : (n1) ≤ 1048576
  · exact core w s0 A1 n1 c1 xs1 h1 hs _ _ _ (pay14_len s0 xs1) (Lib.hid (fun w A1 c1 h1 => specPayRoll_any s0 A1 _ c1 _ xs1 w h1 (Nat.le_refl _))) (Lib.hid (fun w A1 c1 h1 => implPayRoll_any s0 A1 _ c1 _ xs1 w h1 (Nat.le_refl _)))
  · exact big w s0 A1 n1 c1 xs1 h1 o0 hs
end Go.Proofs.Ythaghophlfbobaa.payRoll
