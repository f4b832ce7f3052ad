/- The walk of the law FnExactIsChart. No condition. -/
import Derived.Test.YtbbbkeomfohacaaChart
namespace Go.Proofs.Ytbbbkeomfohacaa.isChart
open Go.RowKit

set_option maxHeartbeats 1000000 in
theorem walk (w : World) (W H : Int) (A : Option Addr) (n c : Nat) (xs : List Int) (_ : I64 W) (_ : I64 H) (h : Rd w w.heap.size A n c xs) :
    Calls Try.prog 5 #[chartV W H (.slice A n c)] w fun e w' => e = .returned (.bool true) ∧ Below w.heap.size w w' := by
  have hlt := h.len_lt
  by_cases hn : n ≤ 1048576
  · go_enter Try.func5, Try.ntmps5
    go_wp2_with fail
    -- szChart
    refine (szChart_ok W H A n c _ hn).mono ?_
    rintro e w1 ⟨rfl, hb⟩
    have HB := Lib.hid (((Below.refl w.heap.size w).alloc (Nat.le_refl _) _).trans (hb.mono (by simp)))
    have HA := (Box.new w #[.int .i64 W, .int .i64 H, .slice A n c] 55).all hb
    have HR := (h.alloc (Nat.le_refl _) _).all hb (by simp)
    have hz : w.heap.size < w1.heap.size := by have := hb.size; simp at this; omega
    clear h hb
    have e0 := HA.2 0 _ rfl
    have e1 := HA.2 1 _ rfl
    have e2 := HA.2 2 _ rfl
    go_wp2_with fail
    -- toChart, for the model
    refine (toChart_any W H A n c _ xs w1 HR (by omega) hn).mono ?_
    rintro e w2 ⟨g, rfl, hown, hb⟩
    have HB := Lib.hid (HB.out.trans (hb.mono (by omega)))
    have HA := HA.all hb
    have HR := HR.all hb (by omega)
    have hz2 : w.heap.size < w2.heap.size := by have := hb.size; omega
    clear hz
    have hz := hz2
    clear hz2 hb e0 e1 e2
    go_wp2_with fail
    -- the model
    obtain ⟨_, _, hv, HS, _⟩ := hown.form
    cases hv
    refine (specIsChart_any W H _ _ _ _ xs w2 HS (Nat.le_refl _)).mono ?_
    rintro e w3 ⟨rfl, hb⟩
    have HB := Lib.hid (HB.out.trans (hb.mono (by omega)))
    have HA := HA.all hb
    have HR := HR.all hb (by omega)
    have hz2 : w.heap.size < w3.heap.size := by have := hb.size; omega
    clear hz
    have hz := hz2
    clear hz2 hb hown HS
    have e0 := HA.2 0 _ rfl
    have e1 := HA.2 1 _ rfl
    have e2 := HA.2 2 _ rfl
    go_wp2_with fail
    -- toChart, for the program
    refine (toChart_any W H A n c _ xs w3 HR (by omega) hn).mono ?_
    rintro e w4 ⟨g', rfl, hown, hb⟩
    have HB := Lib.hid (HB.out.trans (hb.mono (by omega)))
    have HA := HA.all hb
    have HR := HR.all hb (by omega)
    have hz2 : w.heap.size < w4.heap.size := by have := hb.size; omega
    clear hz
    have hz := hz2
    clear hz2 hb e0 e1 e2
    go_wp2_with fail
    -- the program
    have hown := hown.alloc (.cells #[.int .i64 W, .int .i64 H, .slice (some ⟨g', 0, none⟩) xs.length xs.length] 26)
    obtain ⟨_, _, hv, HS, _⟩ := hown.form
    cases hv
    refine (implIsChart_any W H _ _ _ _ xs _ HS (Nat.le_refl _)).mono ?_
    rintro e w5 ⟨rfl, hb⟩
    have hb' := ((Below.refl w4.heap.size w4).alloc (Nat.le_refl _) _).trans (hb.mono (by simp))
    have HB := Lib.hid (HB.out.trans (hb'.mono (by omega)))
    have HA := HA.all hb'
    have HR := HR.all hb' (by omega)
    have HX := (Box.new w4 #[.int .i64 W, .int .i64 H, .slice (some ⟨g', 0, none⟩) xs.length xs.length] 26).all hb
    have HS := HS.all hb (Nat.le_refl _)
    have hz2 : w4.heap.size < w5.heap.size := by have := hb.size; simp at this; omega
    have hz3 : w.heap.size < w5.heap.size := by omega
    have e0 := HA.2 0 _ rfl
    have e1 := HA.2 1 _ rfl
    have e2 := HA.2 2 _ rfl
    have f0 := HX.2 0 _ rfl
    have f1 := HX.2 1 _ rfl
    have f2 := HX.2 2 _ rfl
    clear hb hb' hown
    go_wp2_with fail
    have hz5 : (w4.alloc (.cells #[.int .i64 W, .int .i64 H, .slice (some ⟨g', 0, none⟩) xs.length xs.length] 26)).heap.size ≤ w5.heap.size := by simp; omega
    go_region_held3 (fun w' => w'.cell? ⟨w.heap.size, 0, none⟩ = some (.int .i64 W) ∧ w'.cell? ⟨w.heap.size, 1, none⟩ = some (.int .i64 H) ∧ w'.cell? ⟨w.heap.size, 2, none⟩ = some (.slice A n c) ∧
        w'.cell? ⟨w4.heap.size, 0, none⟩ = some (.int .i64 W) ∧ w'.cell? ⟨w4.heap.size, 1, none⟩ = some (.int .i64 H) ∧ w'.cell? ⟨w4.heap.size, 2, none⟩ = some (.slice (some ⟨g', 0, none⟩) xs.length xs.length))
      (first | exact ⟨e0, e1, e2, f0, f1, f2⟩ | exact ⟨(hbc _ _ (by omega)).trans e0, (hbc _ _ (by omega)).trans e1, (hbc _ _ (by omega)).trans e2, (hbc _ _ (by omega)).trans f0, (hbc _ _ (by omega)).trans f1, (hbc _ _ (by omega)).trans f2⟩ | exact ⟨(hbd _ _ (by omega)).trans ((hbc _ _ (by omega)).trans e0), (hbd _ _ (by omega)).trans ((hbc _ _ (by omega)).trans e1), (hbd _ _ (by omega)).trans ((hbc _ _ (by omega)).trans e2), (hbd _ _ (by omega)).trans ((hbc _ _ (by omega)).trans f0), (hbd _ _ (by omega)).trans ((hbc _ _ (by omega)).trans f1), (hbd _ _ (by omega)).trans ((hbc _ _ (by omega)).trans f2)⟩)
      (first | (go_at_call 49; refine (toChart_any W H A n c _ xs _ HR.drew (by simp; omega) hn).mono ?_; rintro e w6 ⟨g2, rfl, hown, hb⟩; have hb6 : Below w5.heap.size w5 w6 := below_drew hb; have hbc : ∀ b o, b < w5.heap.size → w6.cell? ⟨b, o, none⟩ = w5.cell? ⟨b, o, none⟩ := (bcell hb6).1; have hz6 : w5.heap.size ≤ w6.heap.size := hb6.size; have HS6 := HS.all hb6 hz5; obtain ⟨_, _, hv, HC, _⟩ := hown.form; cases hv) | (go_at_call 50; refine (eqChart_same W H _ _ _ _ _ _ _ _ xs _ HS6 HC (by omega) (Nat.le_refl _)).mono ?_; rintro e w7 ⟨rfl, hb7⟩; have hbd : ∀ b o, b < w6.heap.size → w7.cell? ⟨b, o, none⟩ = w6.cell? ⟨b, o, none⟩ := (bcell hb7).1))
    have HB := Lib.hid (HB.out.trans ((hb6.trans (hb7.mono (by omega))).mono (by omega)))
    go_wp2_with fail
    go_ret
    exact ⟨rfl, HB.out⟩
  · go_enter Try.func5, Try.ntmps5
    go_wp2_with fail
    refine (szChart_big W H A n c _ hn hlt).mono ?_
    rintro e w1 ⟨rfl, hb⟩
    have HB := Lib.hid (((Below.refl w.heap.size w).alloc (Nat.le_refl _) _).trans (hb.mono (by simp)))
    clear h hb
    go_wp2_with fail
    go_ret
    exact ⟨rfl, HB.out⟩
end Go.Proofs.Ytbbbkeomfohacaa.isChart
