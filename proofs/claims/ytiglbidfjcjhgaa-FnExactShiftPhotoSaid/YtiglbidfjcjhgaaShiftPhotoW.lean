/- The walk of the law FnExactShiftPhoto. No condition. -/
import Derived.Test.YtiglbidfjcjhgaaPhotoI
import Derived.Test.YtiglbidfjcjhgaaPhotoS
namespace Go.Proofs.Ytiglbidfjcjhgaa.shiftPhoto
open Go.RowKit

set_option maxRecDepth 100000 in
set_option maxHeartbeats 1000000 in
theorem core (w : World) (W0 H0 : Int) (A0 : Option Addr) (n0 c0 : Nat) (xs0 : List Int) (a1 : Int) (a2 : Int) (a3 : Int) (h0 : Rd w w.heap.size A0 n0 c0 xs0) (hn0 : n0 ≤ 1048576) (rW rH : Int) (ys : List Int) (ok : Bool) (hl : ys.length ≤ 1048576) (hspec : Hid (∀ (w : World) (A0 : Option Addr) (c0 : Nat), Rd w w.heap.size A0 xs0.length c0 xs0 → Calls Try.prog 33 #[chartV W0 H0 (.slice A0 xs0.length c0), .int .i64 a1, .int .i64 a2, .int .i64 a3] w (OutChart w rW rH ys ok))) (himpl : Hid (∀ (w : World) (A0 : Option Addr) (c0 : Nat), Rd w w.heap.size A0 xs0.length c0 xs0 → Calls Try.prog 34 #[chartV W0 H0 (.slice A0 xs0.length c0), .int .i64 a1, .int .i64 a2, .int .i64 a3] w (OutChart w rW rH ys ok))) :
    Calls Try.prog 9 #[chartV W0 H0 (.slice A0 n0 c0), .int .i64 a1, .int .i64 a2, .int .i64 a3] w fun e w' => e = .returned (.bool true) ∧ Below w.heap.size w w' := by
  have HB := Lib.hid (Below.refl w.heap.size w)
  have hz : w.heap.size ≤ w.heap.size := Nat.le_refl _
  have R0 := h0; have hl0 := h0.len; subst hl0; clear h0
  go_enter Try.func9, Try.ntmps9
  go_wp2_with fail
  refine (szChart_ok W0 H0 A0 _ c0 _ hn0).mono ?_
  rintro e w_1 ⟨rfl, hb⟩
  have hb0 := hb
  replace hb := ((Below.refl w.heap.size w).alloc (by first | (simp; done) | (simp; omega)) _).trans (hb0.mono (by first | omega | (simp; done) | (simp; omega)))
  replace R0 := R0.all hb hz
  have Ba0 := (Box.new w #[.int .i64 W0, .int .i64 H0, .slice A0 xs0.length c0] 24).all hb0
  have hsw_1 : w.heap.size + 1 ≤ w_1.heap.size := by have := hb0.size; simp at this; omega
  clear hb0
  replace HB := Lib.hid (HB.out.trans (hb.mono hz))
  replace hz : w.heap.size ≤ w_1.heap.size := by omega
  clear hb
  have za0 := Ba0.1
  have ea00 := Ba0.2 0 _ rfl
  have ea01 := Ba0.2 1 _ rfl
  have ea02 := Ba0.2 2 _ rfl
  go_wp2_with fail
  refine (toChart_any W0 H0 A0 _ c0 _ xs0 _ R0 (by first | omega | (simp; done) | (simp; omega)) hn0).mono ?_
  rintro e w_2 ⟨g2, rfl, own, hb⟩
  replace Ba0 := Ba0.all hb
  replace R0 := R0.all hb hz
  have hsw_2 : w_1.heap.size ≤ w_2.heap.size := hb.size
  replace HB := Lib.hid (HB.out.trans (hb.mono hz))
  replace hz : w.heap.size ≤ w_2.heap.size := by omega
  clear hb za0 ea00 ea01 ea02
  have Ot2 := own; clear own
  have Obt2 := Lib.hid Ot2.bd
  have za0 := Ba0.1
  have ea00 := Ba0.2 0 _ rfl
  have ea01 := Ba0.2 1 _ rfl
  have ea02 := Ba0.2 2 _ rfl
  go_wp2_with fail
  refine (hspec.out _ (some ⟨g2, 0, none⟩) xs0.length Ot2.rd).mono ?_
  rintro e w_3 ⟨A_3, c_3, rfl, own, hb⟩
  replace Ba0 := Ba0.all hb
  replace R0 := R0.all hb hz
  replace Ot2 := Ot2.all hb
  have hsw_3 : w_2.heap.size ≤ w_3.heap.size := hb.size
  replace HB := Lib.hid (HB.out.trans (hb.mono hz))
  replace hz : w.heap.size ≤ w_3.heap.size := by omega
  clear hb za0 ea00 ea01 ea02
  have Or3 := own; clear own
  have Obr3 := Lib.hid Or3.bd
  clear Ot2 Obt2
  have za0 := Ba0.1
  have ea00 := Ba0.2 0 _ rfl
  have ea01 := Ba0.2 1 _ rfl
  have ea02 := Ba0.2 2 _ rfl
  go_wp2_with fail
  refine (toChart_any W0 H0 A0 _ c0 _ xs0 _ (R0.alloc (by first | omega | (simp; done) | (simp; omega)) _) (by first | omega | (simp; done) | (simp; omega)) hn0).mono ?_
  rintro e w_4 ⟨g4, rfl, own, hb⟩
  have hb0 := hb
  replace hb := ((Below.refl w_3.heap.size w_3).alloc (by first | (simp; done) | (simp; omega)) _).trans (hb0.mono (by first | omega | (simp; done) | (simp; omega)))
  replace Ba0 := Ba0.all hb
  replace R0 := R0.all hb hz
  replace Or3 := Or3.all hb
  have Bw0 := (Box.new w_3 #[.int .i64 rW, .int .i64 rH, .slice A_3 ys.length c_3] 28).all hb0
  have hsw_4 : w_3.heap.size + 1 ≤ w_4.heap.size := by have := hb0.size; simp at this; omega
  replace own := own.mono (show w_3.heap.size + 1 ≤ _ by simp)
  clear hb0
  replace HB := Lib.hid (HB.out.trans (hb.mono hz))
  replace hz : w.heap.size ≤ w_4.heap.size := by omega
  clear hb za0 ea00 ea01 ea02
  have Ot4 := own; clear own
  have Obt4 := Lib.hid Ot4.bd
  have za0 := Ba0.1
  have ea00 := Ba0.2 0 _ rfl
  have ea01 := Ba0.2 1 _ rfl
  have ea02 := Ba0.2 2 _ rfl
  have zw0 := Bw0.1
  have ew00 := Bw0.2 0 _ rfl
  have ew01 := Bw0.2 1 _ rfl
  have ew02 := Bw0.2 2 _ rfl
  go_wp2_with fail
  refine (himpl.out _ (some ⟨g4, 0, none⟩) xs0.length (Ot4.alloc _).rd).mono ?_
  rintro e w_5 ⟨A_5, c_5, rfl, own, hb⟩
  have hb0 := hb
  replace hb := ((Below.refl w_4.heap.size w_4).alloc (by first | (simp; done) | (simp; omega)) _).trans (hb0.mono (by first | omega | (simp; done) | (simp; omega)))
  replace Ba0 := Ba0.all hb
  replace Bw0 := Bw0.all hb
  replace R0 := R0.all hb hz
  replace Or3 := Or3.all hb
  replace Ot4 := Ot4.all hb
  have Bx0 := (Box.new w_4 #[.int .i64 W0, .int .i64 H0, .slice (some ⟨g4, 0, none⟩) xs0.length xs0.length] 28).all hb0
  have hsw_5 : w_4.heap.size + 1 ≤ w_5.heap.size := by have := hb0.size; simp at this; omega
  replace own := own.mono (show w_4.heap.size + 1 ≤ _ by simp)
  clear hb0
  replace HB := Lib.hid (HB.out.trans (hb.mono hz))
  replace hz : w.heap.size ≤ w_5.heap.size := by omega
  clear hb za0 ea00 ea01 ea02 zw0 ew00 ew01 ew02
  have Or5 := own; clear own
  have Obr5 := Lib.hid Or5.bd
  have za0 := Ba0.1
  have ea00 := Ba0.2 0 _ rfl
  have ea01 := Ba0.2 1 _ rfl
  have ea02 := Ba0.2 2 _ rfl
  have zw0 := Bw0.1
  have ew00 := Bw0.2 0 _ rfl
  have ew01 := Bw0.2 1 _ rfl
  have ew02 := Bw0.2 2 _ rfl
  have zx0 := Bx0.1
  have ex00 := Bx0.2 0 _ rfl
  have ex01 := Bx0.2 1 _ rfl
  have ex02 := Bx0.2 2 _ rfl
  go_wp2_with fail
  refine (eqChart_same rW rH _ _ _ _ _ _ _ _ ys _ (Or5.alloc _).rd (Or3.alloc _).rd (Nat.le_refl _) (Nat.le_refl _)).mono ?_
  rintro e w_6 ⟨rfl, hb⟩
  have hb0 := hb
  replace hb := ((Below.refl w_5.heap.size w_5).alloc (by first | (simp; done) | (simp; omega)) _).trans (hb0.mono (by first | omega | (simp; done) | (simp; omega)))
  replace Ba0 := Ba0.all hb
  replace Bw0 := Bw0.all hb
  replace Bx0 := Bx0.all hb
  replace R0 := R0.all hb hz
  replace Or3 := Or3.all hb
  replace Ot4 := Ot4.all hb
  replace Or5 := Or5.all hb
  have Bg0 := (Box.new w_5 #[.int .i64 rW, .int .i64 rH, .slice A_5 ys.length c_5] 28).all hb0
  have hsw_6 : w_5.heap.size + 1 ≤ w_6.heap.size := by have := hb0.size; simp at this; omega
  clear hb0
  replace HB := Lib.hid (HB.out.trans (hb.mono hz))
  replace hz : w.heap.size ≤ w_6.heap.size := by omega
  clear hb za0 ea00 ea01 ea02 zw0 ew00 ew01 ew02 zx0 ex00 ex01 ex02
  have za0 := Ba0.1
  have ea00 := Ba0.2 0 _ rfl
  have ea01 := Ba0.2 1 _ rfl
  have ea02 := Ba0.2 2 _ rfl
  have zw0 := Bw0.1
  have ew00 := Bw0.2 0 _ rfl
  have ew01 := Bw0.2 1 _ rfl
  have ew02 := Bw0.2 2 _ rfl
  have zx0 := Bx0.1
  have ex00 := Bx0.2 0 _ rfl
  have ex01 := Bx0.2 1 _ rfl
  have ex02 := Bx0.2 2 _ rfl
  have zg0 := Bg0.1
  have eg00 := Bg0.2 0 _ rfl
  have eg01 := Bg0.2 1 _ rfl
  have eg02 := Bg0.2 2 _ rfl
  go_wp2_with fail
  go_region_held3 (fun w' => w'.cell? ⟨w.heap.size, 0, none⟩ = some (.int .i64 W0) ∧ w'.cell? ⟨w.heap.size, 1, none⟩ = some (.int .i64 H0) ∧ w'.cell? ⟨w.heap.size, 2, none⟩ = some (.slice A0 xs0.length c0) ∧ w'.cell? ⟨w_4.heap.size, 0, none⟩ = some (.int .i64 W0) ∧ w'.cell? ⟨w_4.heap.size, 1, none⟩ = some (.int .i64 H0) ∧ w'.cell? ⟨w_4.heap.size, 2, none⟩ = some (.slice (some ⟨g4, 0, none⟩) xs0.length xs0.length)) (first | exact ⟨ea00, ea01, ea02, ex00, ex01, ex02⟩ | exact ⟨(hbc _ _ (by omega)).trans ea00, (hbc _ _ (by omega)).trans ea01, (hbc _ _ (by omega)).trans ea02, (hbc _ _ (by omega)).trans ex00, (hbc _ _ (by omega)).trans ex01, (hbc _ _ (by omega)).trans ex02⟩ | exact ⟨(hbd _ _ (by omega)).trans ((hbc _ _ (by omega)).trans ea00), (hbd _ _ (by omega)).trans ((hbc _ _ (by omega)).trans ea01), (hbd _ _ (by omega)).trans ((hbc _ _ (by omega)).trans ea02), (hbd _ _ (by omega)).trans ((hbc _ _ (by omega)).trans ex00), (hbd _ _ (by omega)).trans ((hbc _ _ (by omega)).trans ex01), (hbd _ _ (by omega)).trans ((hbc _ _ (by omega)).trans ex02)⟩) (first | (go_at_call 13; refine (toChart_any W0 H0 A0 _ c0 _ xs0 _ R0.drew (by first | omega | (simp; done) | (simp; omega)) hn0).mono ?_; rintro e wa ⟨g2, rfl, hown, hb⟩; have hb6 : Below w_6.heap.size w_6 wa := below_drew hb; have hbc : ∀ b o, b < w_6.heap.size → wa.cell? ⟨b, o, none⟩ = w_6.cell? ⟨b, o, none⟩ := (bcell hb6).1; have hz6 : w_6.heap.size ≤ wa.heap.size := hb6.size; have HS6 := Ot4.rd.all hb6 (Nat.le_refl _)) | (go_at_call 15; refine (eqChart_same W0 H0 _ _ _ _ _ _ _ _ xs0 _ HS6 hown.rd (by omega) (Nat.le_refl _)).mono ?_; rintro e wb ⟨rfl, hb7⟩; have hbd : ∀ b o, b < wa.heap.size → wb.cell? ⟨b, o, none⟩ = wa.cell? ⟨b, o, none⟩ := (bcell hb7).1))
  obtain ⟨w_7, hw⟩ : ∃ w_7, w_7 = wb := ⟨_, rfl⟩
  subst hw
  have hb := hb6.trans (hb7.mono (by omega))
  clear hbd hbc HS6 hown hb6 hb7 hz6
  replace Ba0 := Ba0.all hb
  replace Bw0 := Bw0.all hb
  replace Bx0 := Bx0.all hb
  replace Bg0 := Bg0.all hb
  replace R0 := R0.all hb hz
  replace Or3 := Or3.all hb
  replace Ot4 := Ot4.all hb
  replace Or5 := Or5.all hb
  replace HB := Lib.hid (HB.out.trans (hb.mono hz))
  have hsw_7 : w_6.heap.size ≤ w_7.heap.size := hb.size
  replace hz : w.heap.size ≤ w_7.heap.size := Nat.le_trans hz hsw_7
  clear hb za0 ea00 ea01 ea02 zw0 ew00 ew01 ew02 zx0 ex00 ex01 ex02 zg0 eg00 eg01 eg02
  have za0 := Ba0.1
  have ea00 := Ba0.2 0 _ rfl
  have ea01 := Ba0.2 1 _ rfl
  have ea02 := Ba0.2 2 _ rfl
  have zw0 := Bw0.1
  have ew00 := Bw0.2 0 _ rfl
  have ew01 := Bw0.2 1 _ rfl
  have ew02 := Bw0.2 2 _ rfl
  have zx0 := Bx0.1
  have ex00 := Bx0.2 0 _ rfl
  have ex01 := Bx0.2 1 _ rfl
  have ex02 := Bx0.2 2 _ rfl
  have zg0 := Bg0.1
  have eg00 := Bg0.2 0 _ rfl
  have eg01 := Bg0.2 1 _ rfl
  have eg02 := Bg0.2 2 _ rfl
  go_wp2_with fail
  refine (markChart_any W0 H0 _ _ _ _ _ Ot4 hn0 (by omega) (by omega)).mono ?_
  rintro e w_8 ⟨rfl, own, hg⟩
  have zb := Ba0.1; replace Ba0 := Ba0.mark hg (fun k hk => by have := Obt4.out k hk; omega); clear zb
  have zb := Bw0.1; replace Bw0 := Bw0.mark hg (fun k hk => by have := Obt4.out k hk; omega); clear zb
  have zb := Bx0.1; replace Bx0 := Bx0.mark hg (fun k hk => by have := Obt4.out k hk; omega); clear zb
  have zb := Bg0.1; replace Bg0 := Bg0.mark hg (fun k hk => by have := Obt4.out k hk; omega); clear zb
  replace R0 := R0.mark hg (fun k hk => by have := Obt4.out k hk; omega) hz
  replace Or3 := Or3.mark hg (fun k k' hk hk' => by have := Obt4.out k hk; have := Obr3.out k' hk'; omega)
  replace Or5 := Or5.mark hg (fun k k' hk hk' => by have := Obt4.out k hk; have := Obr5.out k' hk'; omega)
  replace Ot4 := own; clear own
  replace HB := Lib.hid (HB.out.grown hg hz (fun k hk => by have := Obt4.out k hk; omega))
  have hsw_8 : w_7.heap.size ≤ w_8.heap.size := hg.size
  replace hz : w.heap.size ≤ w_8.heap.size := Nat.le_trans hz hsw_8
  clear hg za0 ea00 ea01 ea02 zw0 ew00 ew01 ew02 zx0 ex00 ex01 ex02 zg0 eg00 eg01 eg02
  have za0 := Ba0.1
  have ea00 := Ba0.2 0 _ rfl
  have ea01 := Ba0.2 1 _ rfl
  have ea02 := Ba0.2 2 _ rfl
  have zw0 := Bw0.1
  have ew00 := Bw0.2 0 _ rfl
  have ew01 := Bw0.2 1 _ rfl
  have ew02 := Bw0.2 2 _ rfl
  have zx0 := Bx0.1
  have ex00 := Bx0.2 0 _ rfl
  have ex01 := Bx0.2 1 _ rfl
  have ex02 := Bx0.2 2 _ rfl
  have zg0 := Bg0.1
  have eg00 := Bg0.2 0 _ rfl
  have eg01 := Bg0.2 1 _ rfl
  have eg02 := Bg0.2 2 _ rfl
  go_wp2_with fail
  refine (eqChart_same rW rH _ _ _ _ _ _ _ _ ys _ Or5.rd Or3.rd (Nat.le_refl _) (Nat.le_refl _)).mono ?_
  rintro e w_9 ⟨rfl, hb⟩
  replace Ba0 := Ba0.all hb
  replace Bw0 := Bw0.all hb
  replace Bx0 := Bx0.all hb
  replace Bg0 := Bg0.all hb
  replace R0 := R0.all hb hz
  replace Or3 := Or3.all hb
  replace Ot4 := Ot4.all hb
  replace Or5 := Or5.all hb
  have hsw_9 : w_8.heap.size ≤ w_9.heap.size := hb.size
  replace HB := Lib.hid (HB.out.trans (hb.mono hz))
  replace hz : w.heap.size ≤ w_9.heap.size := by omega
  clear hb za0 ea00 ea01 ea02 zw0 ew00 ew01 ew02 zx0 ex00 ex01 ex02 zg0 eg00 eg01 eg02
  have za0 := Ba0.1
  have ea00 := Ba0.2 0 _ rfl
  have ea01 := Ba0.2 1 _ rfl
  have ea02 := Ba0.2 2 _ rfl
  have zw0 := Bw0.1
  have ew00 := Bw0.2 0 _ rfl
  have ew01 := Bw0.2 1 _ rfl
  have ew02 := Bw0.2 2 _ rfl
  have zx0 := Bx0.1
  have ex00 := Bx0.2 0 _ rfl
  have ex01 := Bx0.2 1 _ rfl
  have ex02 := Bx0.2 2 _ rfl
  have zg0 := Bg0.1
  have eg00 := Bg0.2 0 _ rfl
  have eg01 := Bg0.2 1 _ rfl
  have eg02 := Bg0.2 2 _ rfl
  go_wp2_with fail
  refine (markChart_any rW rH _ _ _ _ _ Or5 hl (by omega) (by omega)).mono ?_
  rintro e w_10 ⟨rfl, own, hg⟩
  have zb := Ba0.1; replace Ba0 := Ba0.mark hg (fun k hk => by have := Obr5.out k hk; omega); clear zb
  have zb := Bw0.1; replace Bw0 := Bw0.mark hg (fun k hk => by have := Obr5.out k hk; omega); clear zb
  have zb := Bx0.1; replace Bx0 := Bx0.mark hg (fun k hk => by have := Obr5.out k hk; omega); clear zb
  have zb := Bg0.1; replace Bg0 := Bg0.mark hg (fun k hk => by have := Obr5.out k hk; omega); clear zb
  replace R0 := R0.mark hg (fun k hk => by have := Obr5.out k hk; omega) hz
  replace Or3 := Or3.mark hg (fun k k' hk hk' => by have := Obr5.out k hk; have := Obr3.out k' hk'; omega)
  replace Ot4 := Ot4.mark hg (fun k k' hk hk' => by have := Obr5.out k hk; have := Obt4.out k' hk'; omega)
  replace Or5 := own; clear own
  replace HB := Lib.hid (HB.out.grown hg hz (fun k hk => by have := Obr5.out k hk; omega))
  have hsw_10 : w_9.heap.size ≤ w_10.heap.size := hg.size
  replace hz : w.heap.size ≤ w_10.heap.size := Nat.le_trans hz hsw_10
  clear hg za0 ea00 ea01 ea02 zw0 ew00 ew01 ew02 zx0 ex00 ex01 ex02 zg0 eg00 eg01 eg02
  have za0 := Ba0.1
  have ea00 := Ba0.2 0 _ rfl
  have ea01 := Ba0.2 1 _ rfl
  have ea02 := Ba0.2 2 _ rfl
  have zw0 := Bw0.1
  have ew00 := Bw0.2 0 _ rfl
  have ew01 := Bw0.2 1 _ rfl
  have ew02 := Bw0.2 2 _ rfl
  have zx0 := Bx0.1
  have ex00 := Bx0.2 0 _ rfl
  have ex01 := Bx0.2 1 _ rfl
  have ex02 := Bx0.2 2 _ rfl
  have zg0 := Bg0.1
  have eg00 := Bg0.2 0 _ rfl
  have eg01 := Bg0.2 1 _ rfl
  have eg02 := Bg0.2 2 _ rfl
  go_wp2_with fail
  refine (heldChart_any rW rH _ _ _ _ _ _ Or5.rd (Nat.le_refl _) hl (by omega) (by omega)).mono ?_
  rintro e w_11 ⟨rfl, hb⟩
  replace Ba0 := Ba0.all hb
  replace Bw0 := Bw0.all hb
  replace Bx0 := Bx0.all hb
  replace Bg0 := Bg0.all hb
  replace R0 := R0.all hb hz
  replace Or3 := Or3.all hb
  replace Ot4 := Ot4.all hb
  replace Or5 := Or5.all hb
  have hsw_11 : w_10.heap.size ≤ w_11.heap.size := hb.size
  replace HB := Lib.hid (HB.out.trans (hb.mono hz))
  replace hz : w.heap.size ≤ w_11.heap.size := by omega
  clear hb za0 ea00 ea01 ea02 zw0 ew00 ew01 ew02 zx0 ex00 ex01 ex02 zg0 eg00 eg01 eg02
  have za0 := Ba0.1
  have ea00 := Ba0.2 0 _ rfl
  have ea01 := Ba0.2 1 _ rfl
  have ea02 := Ba0.2 2 _ rfl
  have zw0 := Bw0.1
  have ew00 := Bw0.2 0 _ rfl
  have ew01 := Bw0.2 1 _ rfl
  have ew02 := Bw0.2 2 _ rfl
  have zx0 := Bx0.1
  have ex00 := Bx0.2 0 _ rfl
  have ex01 := Bx0.2 1 _ rfl
  have ex02 := Bx0.2 2 _ rfl
  have zg0 := Bg0.1
  have eg00 := Bg0.2 0 _ rfl
  have eg01 := Bg0.2 1 _ rfl
  have eg02 := Bg0.2 2 _ rfl
  go_wp2_with fail
  refine (toChart_any W0 H0 A0 _ c0 _ xs0 _ R0 (by first | omega | (simp; done) | (simp; omega)) hn0).mono ?_
  rintro e w_12 ⟨g12, rfl, own, hb⟩
  replace Ba0 := Ba0.all hb
  replace Bw0 := Bw0.all hb
  replace Bx0 := Bx0.all hb
  replace Bg0 := Bg0.all hb
  replace R0 := R0.all hb hz
  replace Or3 := Or3.all hb
  replace Ot4 := Ot4.all hb
  replace Or5 := Or5.all hb
  have hsw_12 : w_11.heap.size ≤ w_12.heap.size := hb.size
  replace HB := Lib.hid (HB.out.trans (hb.mono hz))
  replace hz : w.heap.size ≤ w_12.heap.size := by omega
  clear hb za0 ea00 ea01 ea02 zw0 ew00 ew01 ew02 zx0 ex00 ex01 ex02 zg0 eg00 eg01 eg02
  have Ot12 := own; clear own
  have Obt12 := Lib.hid Ot12.bd
  have za0 := Ba0.1
  have ea00 := Ba0.2 0 _ rfl
  have ea01 := Ba0.2 1 _ rfl
  have ea02 := Ba0.2 2 _ rfl
  have zw0 := Bw0.1
  have ew00 := Bw0.2 0 _ rfl
  have ew01 := Bw0.2 1 _ rfl
  have ew02 := Bw0.2 2 _ rfl
  have zx0 := Bx0.1
  have ex00 := Bx0.2 0 _ rfl
  have ex01 := Bx0.2 1 _ rfl
  have ex02 := Bx0.2 2 _ rfl
  have zg0 := Bg0.1
  have eg00 := Bg0.2 0 _ rfl
  have eg01 := Bg0.2 1 _ rfl
  have eg02 := Bg0.2 2 _ rfl
  go_wp2_with fail
  refine (himpl.out _ (some ⟨g12, 0, none⟩) xs0.length Ot12.rd).mono ?_
  rintro e w_13 ⟨A_13, c_13, rfl, own, hb⟩
  replace Ba0 := Ba0.all hb
  replace Bw0 := Bw0.all hb
  replace Bx0 := Bx0.all hb
  replace Bg0 := Bg0.all hb
  replace R0 := R0.all hb hz
  replace Or3 := Or3.all hb
  replace Ot4 := Ot4.all hb
  replace Or5 := Or5.all hb
  replace Ot12 := Ot12.all hb
  have hsw_13 : w_12.heap.size ≤ w_13.heap.size := hb.size
  replace HB := Lib.hid (HB.out.trans (hb.mono hz))
  replace hz : w.heap.size ≤ w_13.heap.size := by omega
  clear hb za0 ea00 ea01 ea02 zw0 ew00 ew01 ew02 zx0 ex00 ex01 ex02 zg0 eg00 eg01 eg02
  have Or13 := own; clear own
  have Obr13 := Lib.hid Or13.bd
  have za0 := Ba0.1
  have ea00 := Ba0.2 0 _ rfl
  have ea01 := Ba0.2 1 _ rfl
  have ea02 := Ba0.2 2 _ rfl
  have zw0 := Bw0.1
  have ew00 := Bw0.2 0 _ rfl
  have ew01 := Bw0.2 1 _ rfl
  have ew02 := Bw0.2 2 _ rfl
  have zx0 := Bx0.1
  have ex00 := Bx0.2 0 _ rfl
  have ex01 := Bx0.2 1 _ rfl
  have ex02 := Bx0.2 2 _ rfl
  have zg0 := Bg0.1
  have eg00 := Bg0.2 0 _ rfl
  have eg01 := Bg0.2 1 _ rfl
  have eg02 := Bg0.2 2 _ rfl
  go_wp2_with fail
  refine (eqChart_same rW rH _ _ _ _ _ _ _ _ ys _ (Or13.alloc _).rd (Or3.alloc _).rd (Nat.le_refl _) (Nat.le_refl _)).mono ?_
  rintro e w_14 ⟨rfl, hb⟩
  have hb0 := hb
  replace hb := ((Below.refl w_13.heap.size w_13).alloc (by first | (simp; done) | (simp; omega)) _).trans (hb0.mono (by first | omega | (simp; done) | (simp; omega)))
  replace Ba0 := Ba0.all hb
  replace Bw0 := Bw0.all hb
  replace Bx0 := Bx0.all hb
  replace Bg0 := Bg0.all hb
  replace R0 := R0.all hb hz
  replace Or3 := Or3.all hb
  replace Ot4 := Ot4.all hb
  replace Or5 := Or5.all hb
  replace Ot12 := Ot12.all hb
  replace Or13 := Or13.all hb
  have Bh0 := (Box.new w_13 #[.int .i64 rW, .int .i64 rH, .slice A_13 ys.length c_13] 28).all hb0
  have hsw_14 : w_13.heap.size + 1 ≤ w_14.heap.size := by have := hb0.size; simp at this; omega
  clear hb0
  replace HB := Lib.hid (HB.out.trans (hb.mono hz))
  replace hz : w.heap.size ≤ w_14.heap.size := by omega
  clear hb za0 ea00 ea01 ea02 zw0 ew00 ew01 ew02 zx0 ex00 ex01 ex02 zg0 eg00 eg01 eg02
  have za0 := Ba0.1
  have ea00 := Ba0.2 0 _ rfl
  have ea01 := Ba0.2 1 _ rfl
  have ea02 := Ba0.2 2 _ rfl
  have zw0 := Bw0.1
  have ew00 := Bw0.2 0 _ rfl
  have ew01 := Bw0.2 1 _ rfl
  have ew02 := Bw0.2 2 _ rfl
  have zx0 := Bx0.1
  have ex00 := Bx0.2 0 _ rfl
  have ex01 := Bx0.2 1 _ rfl
  have ex02 := Bx0.2 2 _ rfl
  have zg0 := Bg0.1
  have eg00 := Bg0.2 0 _ rfl
  have eg01 := Bg0.2 1 _ rfl
  have eg02 := Bg0.2 2 _ rfl
  have zh0 := Bh0.1
  have eh00 := Bh0.2 0 _ rfl
  have eh01 := Bh0.2 1 _ rfl
  have eh02 := Bh0.2 2 _ rfl
  go_wp2_with fail
  refine (heldChart_any rW rH _ _ _ _ _ _ Or5.rd (Nat.le_refl _) hl (by omega) (by omega)).mono ?_
  rintro e w_15 ⟨rfl, hb⟩
  replace Ba0 := Ba0.all hb
  replace Bw0 := Bw0.all hb
  replace Bx0 := Bx0.all hb
  replace Bg0 := Bg0.all hb
  replace Bh0 := Bh0.all hb
  replace R0 := R0.all hb hz
  replace Or3 := Or3.all hb
  replace Ot4 := Ot4.all hb
  replace Or5 := Or5.all hb
  replace Ot12 := Ot12.all hb
  replace Or13 := Or13.all hb
  have hsw_15 : w_14.heap.size ≤ w_15.heap.size := hb.size
  replace HB := Lib.hid (HB.out.trans (hb.mono hz))
  replace hz : w.heap.size ≤ w_15.heap.size := by omega
  clear hb za0 ea00 ea01 ea02 zw0 ew00 ew01 ew02 zx0 ex00 ex01 ex02 zg0 eg00 eg01 eg02 zh0 eh00 eh01 eh02
  go_wp2_with fail
  go_ret
  exact ⟨rfl, HB.out⟩

set_option maxRecDepth 100000 in
set_option maxHeartbeats 400000 in
theorem big (w : World) (W0 H0 : Int) (A0 : Option Addr) (n0 c0 : Nat) (_xs0 : List Int) (a1 : Int) (a2 : Int) (a3 : Int) (hlt : n0 ≤ 9223372036854775807) (hn : ¬ n0 ≤ 1048576) : Calls Try.prog 9 #[chartV W0 H0 (.slice A0 n0 c0), .int .i64 a1, .int .i64 a2, .int .i64 a3] w fun e w' => e = .returned (.bool true) ∧ Below w.heap.size w w' := by
  have HB := Lib.hid (Below.refl w.heap.size w)
  go_enter Try.func9, Try.ntmps9
  go_wp2_with fail
  refine (szChart_big W0 H0 A0 n0 c0 _ hn hlt).mono ?_
  rintro e w1 ⟨rfl, hb⟩
  replace HB := Lib.hid ((HB.out.alloc (Nat.le_refl _) _).trans (hb.mono (by first | omega | (simp; done) | (simp; omega))))
  clear hb
  go_wp2_with fail
  go_ret
  exact ⟨rfl, HB.out⟩
theorem walk (w : World) (W0 H0 : Int) (A0 : Option Addr) (n0 c0 : Nat) (xs0 : List Int) (_wW0 : I64 W0) (_wH0 : I64 H0) (h0 : Rd w w.heap.size A0 n0 c0 xs0) (a1 : Int) (_l1 : -9223372036854775808 ≤ a1) (_u1 : a1 ≤ 9223372036854775807) (a2 : Int) (_l2 : -9223372036854775808 ≤ a2) (_u2 : a2 ≤ 9223372036854775807) (a3 : Int) (_l3 : -9223372036854775808 ≤ a3) (_u3 : a3 ≤ 9223372036854775807) : Calls Try.prog 9 #[chartV W0 H0 (.slice A0 n0 c0), .int .i64 a1, .int .i64 a2, .int .i64 a3] w fun e w' => e = .returned (.bool true) ∧ Below w.heap.size w w' := by
  by_cases hn0 : n0 ≤ 1048576
  · exact core w W0 H0 A0 n0 c0 xs0 a1 a2 a3 h0 hn0 _ _ _ _ phX_len (Lib.hid (fun w A0 c0 h0 => specShiftPhoto_any W0 H0 A0 _ c0 _ xs0 a1 a2 a3 w h0 (Nat.le_refl _))) (Lib.hid (fun w A0 c0 h0 => implShiftPhoto_any W0 H0 A0 _ c0 _ xs0 a1 a2 a3 w h0 (Nat.le_refl _)))
  · exact big w W0 H0 A0 n0 c0 xs0 a1 a2 a3 h0.len_lt hn0
end Go.Proofs.Ytiglbidfjcjhgaa.shiftPhoto
