/- The walk of the law FnExactCarpetsFrom. No condition. -/
import Derived.Test.YtmcfkabamehkgaaCarpets
import Derived.Test.YtmcfkabamehkgaaCarpS
import Derived.Test.YtmcfkabamehkgaaYarnHelp
import Derived.Test.YtmcfkabamehkgaaHelp
namespace Go.Proofs.Ytmcfkabamehkgaa.carpetsFrom
open Go.RowKit

set_option maxRecDepth 100000 in
set_option maxHeartbeats 4000000 in
theorem core (w : World) (W0 H0 : Int) (A0 : Option Addr) (n0 c0 : Nat) (xs0 : List Int) (s1 : YarnR) (A2 : Option Addr) (n2 c2 : Nat) (xs2 : List Int) (h0 : Rd w w.heap.size A0 n0 c0 xs0) (h2 : Rd w w.heap.size A2 n2 c2 xs2) (hn0 : n0 ≤ 1048576) (hn2 : n2 ≤ 1048576) (r0 : Int) (r1 : Bool) (hspec : Hid (∀ (w : World) (A0 : Option Addr) (c0 : Nat) (A2 : Option Addr) (c2 : Nat), Rd w w.heap.size A0 xs0.length c0 xs0 → Rd w w.heap.size A2 xs2.length c2 xs2 → Calls Try.prog 33 #[chartV W0 H0 (.slice A0 xs0.length c0), .agg #[.int .i64 s1.f0, .int .i64 s1.f1, .int .i64 s1.f2, .int .i64 s1.f3], .slice A2 xs2.length c2] w (Out w (.tuple #[.int .i64 r0, .bool r1])))) (himpl : Hid (∀ (w : World) (A0 : Option Addr) (c0 : Nat) (A2 : Option Addr) (c2 : Nat), Rd w w.heap.size A0 xs0.length c0 xs0 → Rd w w.heap.size A2 xs2.length c2 xs2 → Calls Try.prog 34 #[chartV W0 H0 (.slice A0 xs0.length c0), .agg #[.int .i64 s1.f0, .int .i64 s1.f1, .int .i64 s1.f2, .int .i64 s1.f3], .slice A2 xs2.length c2] w (Out w (.tuple #[.int .i64 r0, .bool r1])))) :
    Calls Try.prog 9 #[chartV W0 H0 (.slice A0 n0 c0), .agg #[.int .i64 s1.f0, .int .i64 s1.f1, .int .i64 s1.f2, .int .i64 s1.f3], .slice A2 n2 c2] w fun e w' => e = .returned (.bool true) ∧ Below w.heap.size w w' := by
  have HB := Lib.hid (Below.refl w.heap.size w)
  have hz : w.heap.size ≤ w.heap.size := Nat.le_refl _
  have R0 := h0; have hl0 := h0.len; subst hl0; clear h0
  have R2 := h2; have hl2 := h2.len; subst hl2; clear h2
  go_enter Try.func9, Try.ntmps9
  go_wp2_with fail
  refine (szChart_ok W0 H0 A0 _ c0 _ hn0).mono ?_
  rintro e w_1 ⟨rfl, hb⟩
  have hb0 := hb
  replace hb := (((Below.refl w.heap.size w).alloc (by simp) _).alloc (by simp) _).trans (hb0.mono (by first | omega | (simp; done) | (simp; omega)))
  replace R0 := R0.all hb hz
  replace R2 := R2.all hb hz
  have Ba0 := ((Box.new w #[.int .i64 W0, .int .i64 H0, .slice A0 xs0.length c0] 33).all ((Below.refl _ _).alloc (Nat.le_refl _) _)).all hb0
  have Ba1 := (Box.new (w.alloc (.cells #[.int .i64 W0, .int .i64 H0, .slice A0 xs0.length c0] 33)) #[.int .i64 s1.f0, .int .i64 s1.f1, .int .i64 s1.f2, .int .i64 s1.f3] 23).all hb0
  rw [show (w.alloc (.cells #[.int .i64 W0, .int .i64 H0, .slice A0 xs0.length c0] 33)).heap.size = w.heap.size + 1 by simp] at Ba1
  have hsw_1 : w.heap.size + 2 ≤ w_1.heap.size := by have := hb0.size; simp at this; omega
  clear hb0
  replace HB := Lib.hid (HB.out.trans (hb.mono hz))
  replace hz : w.heap.size ≤ w_1.heap.size := by omega
  clear hb
  have za0 := Ba0.1
  have ea00 := Ba0.2 0 _ rfl
  have ea01 := Ba0.2 1 _ rfl
  have ea02 := Ba0.2 2 _ rfl
  have za1 := Ba1.1
  have ea10 := Ba1.2 0 _ rfl
  have ea11 := Ba1.2 1 _ rfl
  have ea12 := Ba1.2 2 _ rfl
  have ea13 := Ba1.2 3 _ rfl
  go_wp2_with fail
  clear za0 ea00 ea01 ea02 za1 ea10 ea11 ea12 ea13
  have zza0 := Ba0.1
  have zza1 := Ba1.1
  go_region_held3 (fun w' => w'.cell? ⟨w.heap.size, 0, none⟩ = some (.int .i64 W0) ∧ w'.cell? ⟨w.heap.size, 1, none⟩ = some (.int .i64 H0) ∧ w'.cell? ⟨w.heap.size, 2, none⟩ = some (.slice A0 xs0.length c0) ∧ w'.cell? ⟨w.heap.size + 1, 0, none⟩ = some (.int .i64 s1.f0) ∧ w'.cell? ⟨w.heap.size + 1, 1, none⟩ = some (.int .i64 s1.f1) ∧ w'.cell? ⟨w.heap.size + 1, 2, none⟩ = some (.int .i64 s1.f2) ∧ w'.cell? ⟨w.heap.size + 1, 3, none⟩ = some (.int .i64 s1.f3)) (first | exact ⟨Ba0.2 0 _ rfl, Ba0.2 1 _ rfl, Ba0.2 2 _ rfl, Ba1.2 0 _ rfl, Ba1.2 1 _ rfl, Ba1.2 2 _ rfl, Ba1.2 3 _ rfl⟩ | go_keep) (first | (go_at_call 19; (with_reducible refine (toChart_any W0 H0 A0 _ c0 w.heap.size xs0 _ R0.drew (by first | omega | (simp; done) | (simp; omega)) hn0).mono ?_); rintro e w_2 ⟨g2, rfl, own, hb⟩; (try replace hb := below_drew' hb); replace Ba0 := Ba0.all hb; replace Ba1 := Ba1.all hb; replace R0 := R0.all hb hz; replace R2 := R2.all hb hz; replace own := own.mono (show w_1.heap.size ≤ _ from Nat.le_refl _); have Ot2 := own; have Obt2 := Lib.hid Ot2.bd; clear own; replace HB := Lib.hid (HB.out.trans (hb.mono hz)); have hsw_2 : w_1.heap.size ≤ w_2.heap.size := hb.size; replace hz := Nat.le_trans hz hsw_2; clear hb) | (go_at_call 13; (with_reducible refine (toYarn_any s1 _).mono ?_); rintro e w_3 ⟨rfl, hb⟩; (try replace hb := below_drew' hb); replace Ba0 := Ba0.all hb; replace Ba1 := Ba1.all hb; replace R0 := R0.all hb hz; replace R2 := R2.all hb hz; replace Ot2 := Ot2.all hb; replace HB := Lib.hid (HB.out.trans (hb.mono hz)); have hsw_3 : w_2.heap.size ≤ w_3.heap.size := hb.size; replace hz := Nat.le_trans hz hsw_3; clear hb) | (go_at_call 31; (with_reducible refine (toIntS_any A2 xs2.length c2 w.heap.size xs2 _ R2 (by first | omega | (simp; done) | (simp; omega)) hn2).mono ?_); rintro e w_4 ⟨g4, rfl, own, hb⟩; (try replace hb := below_drew' hb); replace Ba0 := Ba0.all hb; replace Ba1 := Ba1.all hb; replace R0 := R0.all hb hz; replace R2 := R2.all hb hz; replace Ot2 := Ot2.all hb; replace own := own.mono (show w_3.heap.size ≤ _ from Nat.le_refl _); have Ot4 := own; have Obt4 := Lib.hid Ot4.bd; clear own; replace HB := Lib.hid (HB.out.trans (hb.mono hz)); have hsw_4 : w_3.heap.size ≤ w_4.heap.size := hb.size; replace hz := Nat.le_trans hz hsw_4; clear hb) | (go_at_call 33; (with_reducible refine (hspec.out _ _ _ _ _ Ot2.rd Ot4.rd).mono ?_); rintro e w_5 ⟨rfl, hb⟩; (try replace hb := below_drew' hb); replace Ba0 := Ba0.all hb; replace Ba1 := Ba1.all hb; replace R0 := R0.all hb hz; replace R2 := R2.all hb hz; replace Ot2 := Ot2.all hb; replace Ot4 := Ot4.all hb; replace HB := Lib.hid (HB.out.trans (hb.mono hz)); have hsw_5 : w_4.heap.size ≤ w_5.heap.size := hb.size; replace hz := Nat.le_trans hz hsw_5; clear hb))
  clear zza0 zza1
  clear Ot2 Obt2
  clear Ot4 Obt4
  have za0 := Ba0.1
  have ea00 := Ba0.2 0 _ rfl
  have ea01 := Ba0.2 1 _ rfl
  have ea02 := Ba0.2 2 _ rfl
  have za1 := Ba1.1
  have ea10 := Ba1.2 0 _ rfl
  have ea11 := Ba1.2 1 _ rfl
  have ea12 := Ba1.2 2 _ rfl
  have ea13 := Ba1.2 3 _ rfl
  go_wp2_with fail
  refine (toChart_any W0 H0 A0 _ c0 _ xs0 _ R0 (by first | omega | (simp; done) | (simp; omega)) hn0).mono ?_
  rintro e w_6 ⟨g6, rfl, own, hb⟩
  replace Ba0 := Ba0.all hb
  replace Ba1 := Ba1.all hb
  replace R0 := R0.all hb hz
  replace R2 := R2.all hb hz
  have hsw_6 : w_5.heap.size ≤ w_6.heap.size := hb.size
  replace HB := Lib.hid (HB.out.trans (hb.mono hz))
  replace hz : w.heap.size ≤ w_6.heap.size := by omega
  clear hb za0 ea00 ea01 ea02 za1 ea10 ea11 ea12 ea13
  have Ot6 := own; clear own
  have Obt6 := Lib.hid Ot6.bd
  have za0 := Ba0.1
  have ea00 := Ba0.2 0 _ rfl
  have ea01 := Ba0.2 1 _ rfl
  have ea02 := Ba0.2 2 _ rfl
  have za1 := Ba1.1
  have ea10 := Ba1.2 0 _ rfl
  have ea11 := Ba1.2 1 _ rfl
  have ea12 := Ba1.2 2 _ rfl
  have ea13 := Ba1.2 3 _ rfl
  go_wp2_with fail
  refine (toIntS_any A2 xs2.length c2 _ xs2 _ (R2.alloc (by first | omega | (simp; done) | (simp; omega)) _) (by first | omega | (simp; done) | (simp; omega)) hn2).mono ?_
  rintro e w_7 ⟨g7, rfl, own, hb⟩
  have hb0 := hb
  replace hb := ((Below.refl w_6.heap.size w_6).alloc (by simp) _).trans (hb0.mono (by first | omega | (simp; done) | (simp; omega)))
  replace Ba0 := Ba0.all hb
  replace Ba1 := Ba1.all hb
  replace R0 := R0.all hb hz
  replace R2 := R2.all hb hz
  replace Ot6 := Ot6.all hb
  have Bx0 := (Box.new w_6 #[.int .i64 W0, .int .i64 H0, .slice (some ⟨g6, 0, none⟩) xs0.length xs0.length] 37).all hb0
  have hsw_7 : w_6.heap.size + 1 ≤ w_7.heap.size := by have := hb0.size; simp at this; omega
  replace own := own.mono (show w_6.heap.size + 1 ≤ _ by simp)
  clear hb0
  replace HB := Lib.hid (HB.out.trans (hb.mono hz))
  replace hz : w.heap.size ≤ w_7.heap.size := by omega
  clear hb za0 ea00 ea01 ea02 za1 ea10 ea11 ea12 ea13
  have Ot7 := own; clear own
  have Obt7 := Lib.hid Ot7.bd
  have za0 := Ba0.1
  have ea00 := Ba0.2 0 _ rfl
  have ea01 := Ba0.2 1 _ rfl
  have ea02 := Ba0.2 2 _ rfl
  have za1 := Ba1.1
  have ea10 := Ba1.2 0 _ rfl
  have ea11 := Ba1.2 1 _ rfl
  have ea12 := Ba1.2 2 _ rfl
  have ea13 := Ba1.2 3 _ rfl
  have zx0 := Bx0.1
  have ex00 := Bx0.2 0 _ rfl
  have ex01 := Bx0.2 1 _ rfl
  have ex02 := Bx0.2 2 _ rfl
  go_wp2_with fail
  clear za0 ea00 ea01 ea02 za1 ea10 ea11 ea12 ea13 zx0 ex00 ex01 ex02
  have zza0 := Ba0.1
  have zza1 := Ba1.1
  have zzx0 := Bx0.1
  go_region_held3 (fun w' => w'.cell? ⟨w.heap.size + 1, 0, none⟩ = some (.int .i64 s1.f0) ∧ w'.cell? ⟨w.heap.size + 1, 1, none⟩ = some (.int .i64 s1.f1) ∧ w'.cell? ⟨w.heap.size + 1, 2, none⟩ = some (.int .i64 s1.f2) ∧ w'.cell? ⟨w.heap.size + 1, 3, none⟩ = some (.int .i64 s1.f3) ∧ w'.cell? ⟨w_6.heap.size, 0, none⟩ = some (.int .i64 W0) ∧ w'.cell? ⟨w_6.heap.size, 1, none⟩ = some (.int .i64 H0) ∧ w'.cell? ⟨w_6.heap.size, 2, none⟩ = some (.slice (some ⟨g6, 0, none⟩) xs0.length xs0.length)) (first | exact ⟨Ba1.2 0 _ rfl, Ba1.2 1 _ rfl, Ba1.2 2 _ rfl, Ba1.2 3 _ rfl, Bx0.2 0 _ rfl, Bx0.2 1 _ rfl, Bx0.2 2 _ rfl⟩ | go_keep) (first | (go_at_call 13; (with_reducible refine (toYarn_any s1 _).mono ?_); rintro e w_8 ⟨rfl, hb⟩; (try replace hb := below_drew' hb); replace Ba0 := Ba0.all hb; replace Ba1 := Ba1.all hb; replace Bx0 := Bx0.all hb; replace R0 := R0.all hb hz; replace R2 := R2.all hb hz; replace Ot6 := Ot6.all hb; replace Ot7 := Ot7.all hb; replace HB := Lib.hid (HB.out.trans (hb.mono hz)); have hsw_8 : w_7.heap.size ≤ w_8.heap.size := hb.size; replace hz := Nat.le_trans hz hsw_8; clear hb) | (go_at_call 34; (with_reducible refine (himpl.out _ _ _ _ _ Ot6.rd Ot7.rd).mono ?_); rintro e w_9 ⟨rfl, hb⟩; (try replace hb := below_drew' hb); replace Ba0 := Ba0.all hb; replace Ba1 := Ba1.all hb; replace Bx0 := Bx0.all hb; replace R0 := R0.all hb hz; replace R2 := R2.all hb hz; replace Ot6 := Ot6.all hb; replace Ot7 := Ot7.all hb; replace HB := Lib.hid (HB.out.trans (hb.mono hz)); have hsw_9 : w_8.heap.size ≤ w_9.heap.size := hb.size; replace hz := Nat.le_trans hz hsw_9; clear hb))
  clear zza0 zza1 zzx0
  have za0 := Ba0.1
  have ea00 := Ba0.2 0 _ rfl
  have ea01 := Ba0.2 1 _ rfl
  have ea02 := Ba0.2 2 _ rfl
  have za1 := Ba1.1
  have ea10 := Ba1.2 0 _ rfl
  have ea11 := Ba1.2 1 _ rfl
  have ea12 := Ba1.2 2 _ rfl
  have ea13 := Ba1.2 3 _ rfl
  have zx0 := Bx0.1
  have ex00 := Bx0.2 0 _ rfl
  have ex01 := Bx0.2 1 _ rfl
  have ex02 := Bx0.2 2 _ rfl
  go_wp2_with fail
  go_region_held3 (fun w' => w'.cell? ⟨w.heap.size, 0, none⟩ = some (.int .i64 W0) ∧ w'.cell? ⟨w.heap.size, 1, none⟩ = some (.int .i64 H0) ∧ w'.cell? ⟨w.heap.size, 2, none⟩ = some (.slice A0 xs0.length c0) ∧ w'.cell? ⟨w_6.heap.size, 0, none⟩ = some (.int .i64 W0) ∧ w'.cell? ⟨w_6.heap.size, 1, none⟩ = some (.int .i64 H0) ∧ w'.cell? ⟨w_6.heap.size, 2, none⟩ = some (.slice (some ⟨g6, 0, none⟩) xs0.length xs0.length)) (first | exact ⟨ea00, ea01, ea02, ex00, ex01, ex02⟩ | exact ⟨(hbc _ _ (by omega)).trans ea00, (hbc _ _ (by omega)).trans ea01, (hbc _ _ (by omega)).trans ea02, (hbc _ _ (by omega)).trans ex00, (hbc _ _ (by omega)).trans ex01, (hbc _ _ (by omega)).trans ex02⟩ | exact ⟨(hbd _ _ (by omega)).trans ((hbc _ _ (by omega)).trans ea00), (hbd _ _ (by omega)).trans ((hbc _ _ (by omega)).trans ea01), (hbd _ _ (by omega)).trans ((hbc _ _ (by omega)).trans ea02), (hbd _ _ (by omega)).trans ((hbc _ _ (by omega)).trans ex00), (hbd _ _ (by omega)).trans ((hbc _ _ (by omega)).trans ex01), (hbd _ _ (by omega)).trans ((hbc _ _ (by omega)).trans ex02)⟩) (first | (go_at_call 19; refine (toChart_any W0 H0 A0 _ c0 _ xs0 _ R0.drew (by first | omega | (simp; done) | (simp; omega)) hn0).mono ?_; rintro e wa ⟨g2, rfl, hown, hb⟩; have hb6 : Below w_9.heap.size w_9 wa := below_drew hb; have hbc : ∀ b o, b < w_9.heap.size → wa.cell? ⟨b, o, none⟩ = w_9.cell? ⟨b, o, none⟩ := (bcell hb6).1; have hz6 : w_9.heap.size ≤ wa.heap.size := hb6.size; have HS6 := Ot6.rd.all hb6 (Nat.le_refl _)) | (go_at_call 22; refine (eqChart_same W0 H0 _ _ _ _ _ _ _ _ xs0 _ HS6 hown.rd (by omega) (Nat.le_refl _)).mono ?_; rintro e wb ⟨rfl, hb7⟩; have hbd : ∀ b o, b < wa.heap.size → wb.cell? ⟨b, o, none⟩ = wa.cell? ⟨b, o, none⟩ := (bcell hb7).1))
  obtain ⟨w_10, hw⟩ : ∃ w_10, w_10 = wb := ⟨_, rfl⟩
  subst hw
  have hb := hb6.trans (hb7.mono (by omega))
  clear hbd hbc HS6 hown hb6 hb7 hz6
  replace Ba0 := Ba0.all hb
  replace Ba1 := Ba1.all hb
  replace Bx0 := Bx0.all hb
  replace R0 := R0.all hb hz
  replace R2 := R2.all hb hz
  replace Ot6 := Ot6.all hb
  replace Ot7 := Ot7.all hb
  replace HB := Lib.hid (HB.out.trans (hb.mono hz))
  have hsw_10 : w_9.heap.size ≤ w_10.heap.size := hb.size
  replace hz : w.heap.size ≤ w_10.heap.size := Nat.le_trans hz hsw_10
  clear hb za0 ea00 ea01 ea02 za1 ea10 ea11 ea12 ea13 zx0 ex00 ex01 ex02
  have za0 := Ba0.1
  have ea00 := Ba0.2 0 _ rfl
  have ea01 := Ba0.2 1 _ rfl
  have ea02 := Ba0.2 2 _ rfl
  have za1 := Ba1.1
  have ea10 := Ba1.2 0 _ rfl
  have ea11 := Ba1.2 1 _ rfl
  have ea12 := Ba1.2 2 _ rfl
  have ea13 := Ba1.2 3 _ rfl
  have zx0 := Bx0.1
  have ex00 := Bx0.2 0 _ rfl
  have ex01 := Bx0.2 1 _ rfl
  have ex02 := Bx0.2 2 _ rfl
  go_wp2_with fail
  refine (toIntS_any A2 xs2.length c2 _ xs2 _ R2 (by first | omega | (simp; done) | (simp; omega)) hn2).mono ?_
  rintro e w_11 ⟨g11, rfl, own, hb⟩
  replace Ba0 := Ba0.all hb
  replace Ba1 := Ba1.all hb
  replace Bx0 := Bx0.all hb
  replace R0 := R0.all hb hz
  replace R2 := R2.all hb hz
  replace Ot6 := Ot6.all hb
  replace Ot7 := Ot7.all hb
  have hsw_11 : w_10.heap.size ≤ w_11.heap.size := hb.size
  replace HB := Lib.hid (HB.out.trans (hb.mono hz))
  replace hz : w.heap.size ≤ w_11.heap.size := by omega
  clear hb za0 ea00 ea01 ea02 za1 ea10 ea11 ea12 ea13 zx0 ex00 ex01 ex02
  have Ot11 := own; clear own
  have Obt11 := Lib.hid Ot11.bd
  have za0 := Ba0.1
  have ea00 := Ba0.2 0 _ rfl
  have ea01 := Ba0.2 1 _ rfl
  have ea02 := Ba0.2 2 _ rfl
  have za1 := Ba1.1
  have ea10 := Ba1.2 0 _ rfl
  have ea11 := Ba1.2 1 _ rfl
  have ea12 := Ba1.2 2 _ rfl
  have ea13 := Ba1.2 3 _ rfl
  have zx0 := Bx0.1
  have ex00 := Bx0.2 0 _ rfl
  have ex01 := Bx0.2 1 _ rfl
  have ex02 := Bx0.2 2 _ rfl
  go_wp2_with fail
  refine (eqIntS_low _ _ _ _ _ _ _ _ xs2 _ Ot7.rd Ot11.rd).mono ?_
  rintro e w_12 ⟨rfl, hb⟩
  replace Ba0 := Ba0.all hb
  replace Ba1 := Ba1.all hb
  replace Bx0 := Bx0.all hb
  replace R0 := R0.all hb hz
  replace R2 := R2.all hb hz
  replace Ot6 := Ot6.all hb
  replace Ot7 := Ot7.all hb
  replace Ot11 := Ot11.all hb
  have hsw_12 : w_11.heap.size ≤ w_12.heap.size := hb.size
  replace HB := Lib.hid (HB.out.trans (hb.mono hz))
  replace hz : w.heap.size ≤ w_12.heap.size := by omega
  clear hb za0 ea00 ea01 ea02 za1 ea10 ea11 ea12 ea13 zx0 ex00 ex01 ex02
  clear Ot11 Obt11
  go_wp2_with fail
  go_ret
  exact ⟨rfl, HB.out⟩

set_option maxRecDepth 100000 in
set_option maxHeartbeats 400000 in
theorem big (w : World) (W0 H0 : Int) (A0 : Option Addr) (n0 c0 : Nat) (_xs0 : List Int) (s1 : YarnR) (A2 : Option Addr) (n2 c2 : Nat) (_xs2 : List Int) (hlt : n0 ≤ 9223372036854775807) (hn : ¬ n0 ≤ 1048576) (hi2 : n2 ≤ 1048576) : Calls Try.prog 9 #[chartV W0 H0 (.slice A0 n0 c0), .agg #[.int .i64 s1.f0, .int .i64 s1.f1, .int .i64 s1.f2, .int .i64 s1.f3], .slice A2 n2 c2] w fun e w' => e = .returned (.bool true) ∧ Below w.heap.size w w' := by
  have HB := Lib.hid (Below.refl w.heap.size w)
  go_enter Try.func9, Try.ntmps9
  go_wp2_with fail
  refine (szChart_big W0 H0 A0 n0 c0 _ hn hlt).mono ?_
  rintro e w1 ⟨rfl, hb⟩
  replace HB := Lib.hid (((HB.out.alloc (Nat.le_refl _) _).alloc (by first | omega | (simp; done) | (simp; omega)) _).trans (hb.mono (by first | omega | (simp; done) | (simp; omega))))
  clear hb
  go_wp2_with fail
  go_ret
  exact ⟨rfl, HB.out⟩
set_option maxRecDepth 100000 in
set_option maxHeartbeats 400000 in
theorem bigI (w : World) (W0 H0 : Int) (A0 : Option Addr) (n0 c0 : Nat) (_xs0 : List Int) (s1 : YarnR) (A2 : Option Addr) (n2 c2 : Nat) (_xs2 : List Int) (hlt : n2 ≤ 9223372036854775807) (hn : ¬ n2 ≤ 1048576) : Calls Try.prog 9 #[chartV W0 H0 (.slice A0 n0 c0), .agg #[.int .i64 s1.f0, .int .i64 s1.f1, .int .i64 s1.f2, .int .i64 s1.f3], .slice A2 n2 c2] w fun e w' => e = .returned (.bool true) ∧ Below w.heap.size w w' := by
  have HB := Lib.hid (((Below.refl w.heap.size w).alloc (by first | exact Nat.le_refl _ | (simp; done) | (simp; omega)) (.cells #[.int .i64 W0, .int .i64 H0, .slice A0 n0 c0] 33)).alloc (by first | exact Nat.le_refl _ | (simp; done) | (simp; omega)) (.cells #[.int .i64 s1.f0, .int .i64 s1.f1, .int .i64 s1.f2, .int .i64 s1.f3] 23))
  go_enter Try.func9, Try.ntmps9
  go_wp2_with fail
  go_ret
  exact ⟨rfl, HB.out⟩
theorem walk (w : World) (W0 H0 : Int) (A0 : Option Addr) (n0 c0 : Nat) (xs0 : List Int) (_wW0 : I64 W0) (_wH0 : I64 H0) (h0 : Rd w w.heap.size A0 n0 c0 xs0) (s1 : YarnR) (_o1 : s1.ok) (A2 : Option Addr) (n2 c2 : Nat) (xs2 : List Int) (h2 : Rd w w.heap.size A2 n2 c2 xs2) : Calls Try.prog 9 #[chartV W0 H0 (.slice A0 n0 c0), .agg #[.int .i64 s1.f0, .int .i64 s1.f1, .int .i64 s1.f2, .int .i64 s1.f3], .slice A2 n2 c2] w fun e w' => e = .returned (.bool true) ∧ Below w.heap.size w w' := by
  by_cases hn2 : n2 ≤ 1048576
  rotate_left
  · exact bigI w W0 H0 A0 n0 c0 xs0 s1 A2 n2 c2 xs2 h2.len_lt hn2
  by_cases hn0 : n0 ≤ 1048576
  · exact core w W0 H0 A0 n0 c0 xs0 s1 A2 n2 c2 xs2 h0 h2 hn0 hn2 _ _  (Lib.hid (fun w A0 c0 A2 c2 h0 h2 => specCarpetsFrom_any W0 H0 A0 _ c0 _ xs0 s1 A2 _ c2 _ xs2 w h0 h2 (Nat.le_refl _) (Nat.le_refl _))) (Lib.hid (fun w A0 c0 A2 c2 h0 h2 => implCarpetsFrom_any W0 H0 A0 _ c0 _ xs0 s1 A2 _ c2 _ xs2 w h0 h2 (Nat.le_refl _) (Nat.le_refl _)))
  · exact big w W0 H0 A0 n0 c0 xs0 s1 A2 n2 c2 xs2 h0.len_lt hn0 hn2
end Go.Proofs.Ytmcfkabamehkgaa.carpetsFrom
