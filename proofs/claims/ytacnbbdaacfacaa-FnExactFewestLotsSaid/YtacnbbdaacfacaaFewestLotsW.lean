/- The walk of the law FnExactFewestLots. No condition. -/
import Derived.Test.YtacnbbdaacfacaaFewI
import Derived.Test.YtacnbbdaacfacaaHelp
namespace Go.Proofs.Ytacnbbdaacfacaa.fewestLots
open Go.RowKit

set_option maxRecDepth 100000 in
set_option maxHeartbeats 4000000 in
theorem core (w : World) (W0 H0 : Int) (A0 : Option Addr) (n0 c0 : Nat) (xs0 : List Int) (a1 : Int) (A2 : Option Addr) (n2 c2 : Nat) (xs2 : List Int) (h0 : Rd w w.heap.size A0 n0 c0 xs0) (h2 : Rd w w.heap.size A2 n2 c2 xs2) (hn0 : n0 ≤ 1048576) (hn2 : n2 ≤ 1048576) (r0 : Int) (r1 : Bool) (hspec : Hid (∀ (w : World) (A0 : Option Addr) (c0 : Nat) (A2 : Option Addr) (c2 : Nat), Rd w w.heap.size A0 xs0.length c0 xs0 → Rd w w.heap.size A2 xs2.length c2 xs2 → Calls Try.prog 32 #[chartV W0 H0 (.slice A0 xs0.length c0), .int .i64 a1, .slice A2 xs2.length c2] w (Out w (.tuple #[.int .i64 r0, .bool r1])))) (himpl : Hid (∀ (w : World) (A0 : Option Addr) (c0 : Nat) (A2 : Option Addr) (c2 : Nat), Rd w w.heap.size A0 xs0.length c0 xs0 → Rd w w.heap.size A2 xs2.length c2 xs2 → Calls Try.prog 33 #[chartV W0 H0 (.slice A0 xs0.length c0), .int .i64 a1, .slice A2 xs2.length c2] w (Out w (.tuple #[.int .i64 r0, .bool r1])))) :
    Calls Try.prog 9 #[chartV W0 H0 (.slice A0 n0 c0), .int .i64 a1, .slice A2 n2 c2] w fun e w' => e = .returned (.bool true) ∧ Below w.heap.size w w' := by
  have HB := Lib.hid (Below.refl w.heap.size w)
  have hz : w.heap.size ≤ w.heap.size := Nat.le_refl _
  have R0 := h0; have hl0 := h0.len; subst hl0; clear h0
  have R2 := h2; have hl2 := h2.len; subst hl2; clear h2
  go_enter Try.func9, Try.ntmps9
  go_wp2_with fail
  refine (szChart_ok W0 H0 A0 _ c0 _ hn0).mono ?_
  rintro e w_1 ⟨rfl, hb⟩
  have hb0 := hb
  replace hb := ((Below.refl w.heap.size w).alloc (by simp) _).trans (hb0.mono (by first | omega | (simp; done) | (simp; omega)))
  replace R0 := R0.all hb hz
  replace R2 := R2.all hb hz
  have Ba0 := (Box.new w #[.int .i64 W0, .int .i64 H0, .slice A0 xs0.length c0] 24).all hb0
  have hsw_1 : w.heap.size + 1 ≤ w_1.heap.size := by have := hb0.size; simp at this; omega
  clear hb0
  replace HB := Lib.hid (HB.out.trans (hb.mono hz))
  replace hz : w.heap.size ≤ w_1.heap.size := by omega
  clear hb
  have za0 := Ba0.1
  have ea00 := Ba0.2 0 _ rfl
  have ea01 := Ba0.2 1 _ rfl
  have ea02 := Ba0.2 2 _ rfl
  go_wp2_with fail
  refine (toChart_any W0 H0 A0 _ c0 _ xs0 _ R0 (by first | omega | (simp; done) | (simp; omega)) hn0).mono ?_
  rintro e w_2 ⟨g2, rfl, own, hb⟩
  replace Ba0 := Ba0.all hb
  replace R0 := R0.all hb hz
  replace R2 := R2.all hb hz
  have hsw_2 : w_1.heap.size ≤ w_2.heap.size := hb.size
  replace HB := Lib.hid (HB.out.trans (hb.mono hz))
  replace hz : w.heap.size ≤ w_2.heap.size := by omega
  clear hb za0 ea00 ea01 ea02
  have Ot2 := own; clear own
  have Obt2 := Lib.hid Ot2.bd
  have za0 := Ba0.1
  have ea00 := Ba0.2 0 _ rfl
  have ea01 := Ba0.2 1 _ rfl
  have ea02 := Ba0.2 2 _ rfl
  go_wp2_with fail
  refine (toIntS_any A2 xs2.length c2 _ xs2 _ R2 (by first | omega | (simp; done) | (simp; omega)) hn2).mono ?_
  rintro e w_3 ⟨g3, rfl, own, hb⟩
  replace Ba0 := Ba0.all hb
  replace R0 := R0.all hb hz
  replace R2 := R2.all hb hz
  replace Ot2 := Ot2.all hb
  have hsw_3 : w_2.heap.size ≤ w_3.heap.size := hb.size
  replace HB := Lib.hid (HB.out.trans (hb.mono hz))
  replace hz : w.heap.size ≤ w_3.heap.size := by omega
  clear hb za0 ea00 ea01 ea02
  have Ot3 := own; clear own
  have Obt3 := Lib.hid Ot3.bd
  have za0 := Ba0.1
  have ea00 := Ba0.2 0 _ rfl
  have ea01 := Ba0.2 1 _ rfl
  have ea02 := Ba0.2 2 _ rfl
  go_wp2_with fail
  refine (hspec.out _ (some ⟨g2, 0, none⟩) xs0.length (some ⟨g3, 0, none⟩) xs2.length Ot2.rd Ot3.rd).mono ?_
  rintro e w_4 ⟨rfl, hb⟩
  replace Ba0 := Ba0.all hb
  replace R0 := R0.all hb hz
  replace R2 := R2.all hb hz
  replace Ot2 := Ot2.all hb
  replace Ot3 := Ot3.all hb
  have hsw_4 : w_3.heap.size ≤ w_4.heap.size := hb.size
  replace HB := Lib.hid (HB.out.trans (hb.mono hz))
  replace hz : w.heap.size ≤ w_4.heap.size := by omega
  clear hb za0 ea00 ea01 ea02
  clear Ot2 Obt2
  clear Ot3 Obt3
  have za0 := Ba0.1
  have ea00 := Ba0.2 0 _ rfl
  have ea01 := Ba0.2 1 _ rfl
  have ea02 := Ba0.2 2 _ rfl
  go_wp2_with fail
  refine (toChart_any W0 H0 A0 _ c0 _ xs0 _ R0 (by first | omega | (simp; done) | (simp; omega)) hn0).mono ?_
  rintro e w_5 ⟨g5, rfl, own, hb⟩
  replace Ba0 := Ba0.all hb
  replace R0 := R0.all hb hz
  replace R2 := R2.all hb hz
  have hsw_5 : w_4.heap.size ≤ w_5.heap.size := hb.size
  replace HB := Lib.hid (HB.out.trans (hb.mono hz))
  replace hz : w.heap.size ≤ w_5.heap.size := by omega
  clear hb za0 ea00 ea01 ea02
  have Ot5 := own; clear own
  have Obt5 := Lib.hid Ot5.bd
  have za0 := Ba0.1
  have ea00 := Ba0.2 0 _ rfl
  have ea01 := Ba0.2 1 _ rfl
  have ea02 := Ba0.2 2 _ rfl
  go_wp2_with fail
  refine (toIntS_any A2 xs2.length c2 _ xs2 _ (R2.alloc (by first | omega | (simp; done) | (simp; omega)) _) (by first | omega | (simp; done) | (simp; omega)) hn2).mono ?_
  rintro e w_6 ⟨g6, rfl, own, hb⟩
  have hb0 := hb
  replace hb := ((Below.refl w_5.heap.size w_5).alloc (by simp) _).trans (hb0.mono (by first | omega | (simp; done) | (simp; omega)))
  replace Ba0 := Ba0.all hb
  replace R0 := R0.all hb hz
  replace R2 := R2.all hb hz
  replace Ot5 := Ot5.all hb
  have Bx0 := (Box.new w_5 #[.int .i64 W0, .int .i64 H0, .slice (some ⟨g5, 0, none⟩) xs0.length xs0.length] 28).all hb0
  have hsw_6 : w_5.heap.size + 1 ≤ w_6.heap.size := by have := hb0.size; simp at this; omega
  replace own := own.mono (show w_5.heap.size + 1 ≤ _ by simp)
  clear hb0
  replace HB := Lib.hid (HB.out.trans (hb.mono hz))
  replace hz : w.heap.size ≤ w_6.heap.size := by omega
  clear hb za0 ea00 ea01 ea02
  have Ot6 := own; clear own
  have Obt6 := Lib.hid Ot6.bd
  have za0 := Ba0.1
  have ea00 := Ba0.2 0 _ rfl
  have ea01 := Ba0.2 1 _ rfl
  have ea02 := Ba0.2 2 _ rfl
  have zx0 := Bx0.1
  have ex00 := Bx0.2 0 _ rfl
  have ex01 := Bx0.2 1 _ rfl
  have ex02 := Bx0.2 2 _ rfl
  go_wp2_with fail
  refine (himpl.out _ (some ⟨g5, 0, none⟩) xs0.length (some ⟨g6, 0, none⟩) xs2.length Ot5.rd Ot6.rd).mono ?_
  rintro e w_7 ⟨rfl, hb⟩
  replace Ba0 := Ba0.all hb
  replace Bx0 := Bx0.all hb
  replace R0 := R0.all hb hz
  replace R2 := R2.all hb hz
  replace Ot5 := Ot5.all hb
  replace Ot6 := Ot6.all hb
  have hsw_7 : w_6.heap.size ≤ w_7.heap.size := hb.size
  replace HB := Lib.hid (HB.out.trans (hb.mono hz))
  replace hz : w.heap.size ≤ w_7.heap.size := by omega
  clear hb za0 ea00 ea01 ea02 zx0 ex00 ex01 ex02
  have za0 := Ba0.1
  have ea00 := Ba0.2 0 _ rfl
  have ea01 := Ba0.2 1 _ rfl
  have ea02 := Ba0.2 2 _ rfl
  have zx0 := Bx0.1
  have ex00 := Bx0.2 0 _ rfl
  have ex01 := Bx0.2 1 _ rfl
  have ex02 := Bx0.2 2 _ rfl
  go_wp2_with fail
  go_region_held3 (fun w' => w'.cell? ⟨w.heap.size, 0, none⟩ = some (.int .i64 W0) ∧ w'.cell? ⟨w.heap.size, 1, none⟩ = some (.int .i64 H0) ∧ w'.cell? ⟨w.heap.size, 2, none⟩ = some (.slice A0 xs0.length c0) ∧ w'.cell? ⟨w_5.heap.size, 0, none⟩ = some (.int .i64 W0) ∧ w'.cell? ⟨w_5.heap.size, 1, none⟩ = some (.int .i64 H0) ∧ w'.cell? ⟨w_5.heap.size, 2, none⟩ = some (.slice (some ⟨g5, 0, none⟩) xs0.length xs0.length)) (first | exact ⟨ea00, ea01, ea02, ex00, ex01, ex02⟩ | exact ⟨(hbc _ _ (by omega)).trans ea00, (hbc _ _ (by omega)).trans ea01, (hbc _ _ (by omega)).trans ea02, (hbc _ _ (by omega)).trans ex00, (hbc _ _ (by omega)).trans ex01, (hbc _ _ (by omega)).trans ex02⟩ | exact ⟨(hbd _ _ (by omega)).trans ((hbc _ _ (by omega)).trans ea00), (hbd _ _ (by omega)).trans ((hbc _ _ (by omega)).trans ea01), (hbd _ _ (by omega)).trans ((hbc _ _ (by omega)).trans ea02), (hbd _ _ (by omega)).trans ((hbc _ _ (by omega)).trans ex00), (hbd _ _ (by omega)).trans ((hbc _ _ (by omega)).trans ex01), (hbd _ _ (by omega)).trans ((hbc _ _ (by omega)).trans ex02)⟩) (first | (go_at_call 14; refine (toChart_any W0 H0 A0 _ c0 _ xs0 _ R0.drew (by first | omega | (simp; done) | (simp; omega)) hn0).mono ?_; rintro e wa ⟨g2, rfl, hown, hb⟩; have hb6 : Below w_7.heap.size w_7 wa := below_drew hb; have hbc : ∀ b o, b < w_7.heap.size → wa.cell? ⟨b, o, none⟩ = w_7.cell? ⟨b, o, none⟩ := (bcell hb6).1; have hz6 : w_7.heap.size ≤ wa.heap.size := hb6.size; have HS6 := Ot5.rd.all hb6 (Nat.le_refl _)) | (go_at_call 17; refine (eqChart_same W0 H0 _ _ _ _ _ _ _ _ xs0 _ HS6 hown.rd (by omega) (Nat.le_refl _)).mono ?_; rintro e wb ⟨rfl, hb7⟩; have hbd : ∀ b o, b < wa.heap.size → wb.cell? ⟨b, o, none⟩ = wa.cell? ⟨b, o, none⟩ := (bcell hb7).1))
  obtain ⟨w_8, hw⟩ : ∃ w_8, w_8 = wb := ⟨_, rfl⟩
  subst hw
  have hb := hb6.trans (hb7.mono (by omega))
  clear hbd hbc HS6 hown hb6 hb7 hz6
  replace Ba0 := Ba0.all hb
  replace Bx0 := Bx0.all hb
  replace R0 := R0.all hb hz
  replace R2 := R2.all hb hz
  replace Ot5 := Ot5.all hb
  replace Ot6 := Ot6.all hb
  replace HB := Lib.hid (HB.out.trans (hb.mono hz))
  have hsw_8 : w_7.heap.size ≤ w_8.heap.size := hb.size
  replace hz : w.heap.size ≤ w_8.heap.size := Nat.le_trans hz hsw_8
  clear hb za0 ea00 ea01 ea02 zx0 ex00 ex01 ex02
  have za0 := Ba0.1
  have ea00 := Ba0.2 0 _ rfl
  have ea01 := Ba0.2 1 _ rfl
  have ea02 := Ba0.2 2 _ rfl
  have zx0 := Bx0.1
  have ex00 := Bx0.2 0 _ rfl
  have ex01 := Bx0.2 1 _ rfl
  have ex02 := Bx0.2 2 _ rfl
  go_wp2_with fail
  refine (toIntS_any A2 xs2.length c2 _ xs2 _ R2 (by first | omega | (simp; done) | (simp; omega)) hn2).mono ?_
  rintro e w_9 ⟨g9, rfl, own, hb⟩
  replace Ba0 := Ba0.all hb
  replace Bx0 := Bx0.all hb
  replace R0 := R0.all hb hz
  replace R2 := R2.all hb hz
  replace Ot5 := Ot5.all hb
  replace Ot6 := Ot6.all hb
  have hsw_9 : w_8.heap.size ≤ w_9.heap.size := hb.size
  replace HB := Lib.hid (HB.out.trans (hb.mono hz))
  replace hz : w.heap.size ≤ w_9.heap.size := by omega
  clear hb za0 ea00 ea01 ea02 zx0 ex00 ex01 ex02
  have Ot9 := own; clear own
  have Obt9 := Lib.hid Ot9.bd
  have za0 := Ba0.1
  have ea00 := Ba0.2 0 _ rfl
  have ea01 := Ba0.2 1 _ rfl
  have ea02 := Ba0.2 2 _ rfl
  have zx0 := Bx0.1
  have ex00 := Bx0.2 0 _ rfl
  have ex01 := Bx0.2 1 _ rfl
  have ex02 := Bx0.2 2 _ rfl
  go_wp2_with fail
  refine (eqIntS_low _ _ _ _ _ _ _ _ xs2 _ Ot6.rd Ot9.rd).mono ?_
  rintro e w_10 ⟨rfl, hb⟩
  replace Ba0 := Ba0.all hb
  replace Bx0 := Bx0.all hb
  replace R0 := R0.all hb hz
  replace R2 := R2.all hb hz
  replace Ot5 := Ot5.all hb
  replace Ot6 := Ot6.all hb
  replace Ot9 := Ot9.all hb
  have hsw_10 : w_9.heap.size ≤ w_10.heap.size := hb.size
  replace HB := Lib.hid (HB.out.trans (hb.mono hz))
  replace hz : w.heap.size ≤ w_10.heap.size := by omega
  clear hb za0 ea00 ea01 ea02 zx0 ex00 ex01 ex02
  clear Ot9 Obt9
  go_wp2_with fail
  go_ret
  exact ⟨rfl, HB.out⟩

set_option maxRecDepth 100000 in
set_option maxHeartbeats 400000 in
theorem big (w : World) (W0 H0 : Int) (A0 : Option Addr) (n0 c0 : Nat) (_xs0 : List Int) (a1 : Int) (A2 : Option Addr) (n2 c2 : Nat) (_xs2 : List Int) (hlt : n0 ≤ 9223372036854775807) (hn : ¬ n0 ≤ 1048576) (hi2 : n2 ≤ 1048576) : Calls Try.prog 9 #[chartV W0 H0 (.slice A0 n0 c0), .int .i64 a1, .slice A2 n2 c2] w fun e w' => e = .returned (.bool true) ∧ Below w.heap.size w w' := by
  have HB := Lib.hid (Below.refl w.heap.size w)
  go_enter Try.func9, Try.ntmps9
  go_wp2_with fail
  refine (szChart_big W0 H0 A0 n0 c0 _ hn hlt).mono ?_
  rintro e w1 ⟨rfl, hb⟩
  replace HB := Lib.hid ((HB.out.alloc (Nat.le_refl _) _).trans (hb.mono (by first | omega | (simp; done) | (simp; omega))))
  clear hb
  go_wp2_with fail
  go_ret
  exact ⟨rfl, HB.out⟩
set_option maxRecDepth 100000 in
set_option maxHeartbeats 400000 in
theorem bigI (w : World) (W0 H0 : Int) (A0 : Option Addr) (n0 c0 : Nat) (_xs0 : List Int) (a1 : Int) (A2 : Option Addr) (n2 c2 : Nat) (_xs2 : List Int) (hlt : n2 ≤ 9223372036854775807) (hn : ¬ n2 ≤ 1048576) : Calls Try.prog 9 #[chartV W0 H0 (.slice A0 n0 c0), .int .i64 a1, .slice A2 n2 c2] w fun e w' => e = .returned (.bool true) ∧ Below w.heap.size w w' := by
  have HB := Lib.hid ((Below.refl w.heap.size w).alloc (by first | exact Nat.le_refl _ | (simp; done) | (simp; omega)) (.cells #[.int .i64 W0, .int .i64 H0, .slice A0 n0 c0] 24))
  go_enter Try.func9, Try.ntmps9
  go_wp2_with fail
  go_ret
  exact ⟨rfl, HB.out⟩
theorem walk (w : World) (W0 H0 : Int) (A0 : Option Addr) (n0 c0 : Nat) (xs0 : List Int) (_wW0 : I64 W0) (_wH0 : I64 H0) (h0 : Rd w w.heap.size A0 n0 c0 xs0) (a1 : Int) (_l1 : -9223372036854775808 ≤ a1) (_u1 : a1 ≤ 9223372036854775807) (A2 : Option Addr) (n2 c2 : Nat) (xs2 : List Int) (h2 : Rd w w.heap.size A2 n2 c2 xs2) : Calls Try.prog 9 #[chartV W0 H0 (.slice A0 n0 c0), .int .i64 a1, .slice A2 n2 c2] w fun e w' => e = .returned (.bool true) ∧ Below w.heap.size w w' := by
  by_cases hn2 : n2 ≤ 1048576
  rotate_left
  · exact bigI w W0 H0 A0 n0 c0 xs0 a1 A2 n2 c2 xs2 h2.len_lt hn2
  by_cases hn0 : n0 ≤ 1048576
  · exact core w W0 H0 A0 n0 c0 xs0 a1 A2 n2 c2 xs2 h0 h2 hn0 hn2 _ _  (Lib.hid (fun w A0 c0 A2 c2 h0 h2 => specFewestLots_any W0 H0 A0 _ c0 _ xs0 a1 A2 _ c2 _ xs2 w h0 (Nat.le_refl _) h2 (Nat.le_refl _))) (Lib.hid (fun w A0 c0 A2 c2 h0 h2 => implFewestLots_any W0 H0 A0 _ c0 _ xs0 a1 A2 _ c2 _ xs2 w h0 (Nat.le_refl _) h2 (Nat.le_refl _)))
  · exact big w W0 H0 A0 n0 c0 xs0 a1 A2 n2 c2 xs2 h0.len_lt hn0 hn2
end Go.Proofs.Ytacnbbdaacfacaa.fewestLots
