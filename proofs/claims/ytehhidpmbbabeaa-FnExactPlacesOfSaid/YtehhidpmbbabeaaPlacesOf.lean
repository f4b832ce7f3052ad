/- The walks of PlacesOf, the program's and the model's. No condition. -/
import Derived.Test.YtehhidpmbbabeaaPlacesI
import Derived.Test.YtehhidpmbbabeaaApartPMath
namespace Go.Proofs.Ytehhidpmbbabeaa
open Go.RowKit

def placesX (W H : Int) (xs : List Int) (pW pH : Int) (ys : List Int) : List PairR := if twoOk W H xs pW pH ys = true then placesL W.toNat H.toNat xs pW.toNat pH.toNat ys else []
theorem places_no {W H : Int} {xs : List Int} {pW pH : Int} {ys : List Int} (h : goodB W H xs = false ∨ goodB pW pH ys = false) : placesX W H xs pW pH ys = [] ∧ twoOk W H xs pW pH ys = false := by
  have := two_no h
  simp [placesX, this]
theorem places_yes {W H : Int} {xs : List Int} {pW pH : Int} {ys : List Int} (h : goodB W H xs = true) (h' : goodB pW pH ys = true) : placesX W H xs pW pH ys = placesL W.toNat H.toNat xs pW.toNat pH.toNat ys ∧ twoOk W H xs pW pH ys = true := by simp [placesX, twoOk, h, h']
theorem placesX_len (W H : Int) (xs : List Int) (pW pH : Int) (ys : List Int) : (placesX W H xs pW pH ys).length ≤ 64 := by
  unfold placesX
  split
  · rename_i h
    simp only [twoOk, Bool.and_eq_true] at h
    obtain ⟨h1, h2⟩ := h
    have a := goodB_yes h1
    have b := goodB_yes h2
    exact placesL_len (by omega) (by omega) (by omega) (by omega)
  · simp
set_option maxRecDepth 100000 in
set_option maxHeartbeats 8000000 in
theorem implPlacesOf_any (W H : Int) (A : Option Addr) (n c B : Nat) (xs : List Int) (pW pH : Int) (A' : Option Addr) (n' c' B' : Nat) (ys : List Int) (w : World) (hR : Rd w B A n c xs) (hR' : Rd w B' A' n' c' ys) (hB : B ≤ w.heap.size) (hB' : B' ≤ w.heap.size) :
    Calls Try.prog 30 #[chartV W H (.slice A n c), chartV pW pH (.slice A' n' c')] w (OutF pairF w (placesX W H xs pW pH ys) (twoOk W H xs pW pH ys)) := by
  have hb0 := Lib.hid (((Below.refl w.heap.size w).alloc (Nat.le_refl _) (.cells #[.int .i64 W, .int .i64 H, .slice A n c] 26)).alloc (by simp) (.cells #[.int .i64 pW, .int .i64 pH, .slice A' n' c'] 26))
  have h1 := Lib.hid ((hR.alloc hB (.cells #[.int .i64 W, .int .i64 H, .slice A n c] 26)).alloc (by simp; omega) (.cells #[.int .i64 pW, .int .i64 pH, .slice A' n' c'] 26))
  have h2 := Lib.hid ((hR'.alloc hB' (.cells #[.int .i64 W, .int .i64 H, .slice A n c] 26)).alloc (by simp; omega) (.cells #[.int .i64 pW, .int .i64 pH, .slice A' n' c'] 26))
  have x0 := (Blk.new w #[.int .i64 W, .int .i64 H, .slice A n c] 26).alloc (.cells #[.int .i64 pW, .int .i64 pH, .slice A' n' c'] 26)
  have p0 := (Blk.new (w.alloc (.cells #[.int .i64 W, .int .i64 H, .slice A n c] 26)) #[.int .i64 pW, .int .i64 pH, .slice A' n' c'] 26).at_ (q := w.heap.size + 1) (by simp)
  by_cases g1 : goodB W H xs = true
  rotate_left
  · have hno := not_false g1
    have H' := Lib.hid (places_no (W := W) (H := H) (xs := xs) (pW := pW) (pH := pH) (ys := ys) (.inl hno))
    go_enter Try.func30, Try.ntmps30
    go_wp2_with fail
    refine (implIsChart_any W H A n c B xs _ h1.out (by first | omega | (simp; done) | (simp; omega))).mono ?_
    rintro e w1 ⟨rfl, hb⟩
    have HB := Lib.hid (hb0.out.trans (hb.mono (by simp; omega)))
    rw [hno]
    clear hb x0 p0
    go_wp2
    go_ret2
    rw [H'.out.1, H'.out.2]
    exact ⟨none, 0, rfl, OwnF.nil _ _ _, HB.out⟩
  by_cases g2 : goodB pW pH ys = true
  rotate_left
  · have hno := not_false g2
    have H' := Lib.hid (places_no (W := W) (H := H) (xs := xs) (pW := pW) (pH := pH) (ys := ys) (.inr hno))
    go_enter Try.func30, Try.ntmps30
    go_wp2_with fail
    refine (implIsChart_any W H A n c B xs _ h1.out (by first | omega | (simp; done) | (simp; omega))).mono ?_
    rintro e w1 ⟨rfl, hb⟩
    have HB := Lib.hid (hb0.out.trans (hb.mono (by simp; omega)))
    have p1 := p0.all hb
    have R2 := Lib.hid (h2.out.all hb (by simp; omega))
    have hz1 : w.heap.size ≤ w1.heap.size := HB.out.size
    have hz2 : B' ≤ w1.heap.size := Nat.le_trans hB' hz1
    have e0 := p1.cell 0
    have e1 := p1.cell 1
    have e2 := p1.cell 2
    rw [g1]
    clear hb x0 p0
    go_wp2_with fail
    refine (implIsChart_any pW pH A' n' c' B' ys _ R2.out (by first | omega | (simp; done) | (simp; omega))).mono ?_
    rintro e w2 ⟨rfl, hb⟩
    have HB2 := Lib.hid (HB.out.trans (hb.mono hz1))
    clear HB hb
    have HB := HB2
    rw [hno]
    go_wp2
    go_ret2
    rw [H'.out.1, H'.out.2]
    exact ⟨none, 0, rfl, OwnF.nil _ _ _, HB.out⟩
  obtain ⟨hPX, hTW⟩ := places_yes g1 g2
  rw [hPX, hTW]
  clear hPX hTW
  obtain ⟨m, kk, rfl, rfl, m1, m8, k1, k8, hl, h64, hl1, hcx⟩ := good_nat g1
  obtain ⟨pm, pk, rfl, rfl, pm1, pm8, pk1, pk8, hl', h64', hl1', hcy⟩ := good_nat g2
  simp only [Int.toNat_natCast] at *
  obtain rfl := hR.len
  obtain rfl := hR'.len
  obtain ⟨b, off, rfl, _, _⟩ := hR.cells (by omega)
  obtain ⟨b', off', rfl, _, _⟩ := hR'.cells (by omega)
  clear hR hR'
  go_enter Try.func30, Try.ntmps30
  go_wp2_with fail
  refine (implIsChart_any m kk _ _ c B xs _ h1.out (by simp; omega)).mono ?_
  rintro e w1 ⟨rfl, hb⟩
  have x1 := x0.all hb
  have p1 := p0.all hb
  have RA1 := Lib.hid (h1.out.all hb (by simp; omega))
  have RB1 := Lib.hid (h2.out.all hb (by simp; omega))
  have HB1 := Lib.hid (hb0.out.trans (hb.mono (by simp; omega)))
  have hz1 : w.heap.size ≤ w1.heap.size := HB1.out.size
  have e0 := p1.cell 0
  have e1 := p1.cell 1
  have e2 := p1.cell 2
  rw [g1]
  clear hb x0 p0 h1 h2 hb0 g1
  go_wp2_with fail
  refine (implIsChart_any pm pk _ _ c' B' ys _ RB1.out (Nat.le_trans hB' hz1)).mono ?_
  rintro e w2 ⟨rfl, hb⟩
  have x2 := x1.all hb
  have p2 := p1.all hb
  have RA := Lib.hid (RA1.out.all hb (Nat.le_trans hB hz1))
  have RB := Lib.hid (RB1.out.all hb (Nat.le_trans hB' hz1))
  have HB := Lib.hid (HB1.out.trans (hb.mono hz1))
  have hz2 : w.heap.size ≤ w2.heap.size := HB.out.size
  rw [g2]
  clear hb x1 p1 RA1 RB1 HB1 hz1 e0 e1 e2 g2
  have ex0 := x2.cell 0
  have ex1 := x2.cell 1
  have ex2 := x2.cell 2
  have ep0 := p2.cell 0
  have ep1 := p2.cell 1
  have ep2 := p2.cell 2
  go_wp2_with fail
  refine (placesIn_any m kk pm pk b off c B b' off' c' B' xs ys _ RA.out RB.out (Nat.le_trans hB hz2) (Nat.le_trans hB' hz2) m1 m8 k8 pm1 pk1 pm8 pk8 hl hl').mono ?_
  rintro e w3 ⟨A3, c3, rfl, own3, hb3⟩
  have HB3 := Lib.hid (HB.out.trans (hb3.mono hz2))
  replace own3 := own3.mono hz2
  clear hb3 x2 p2 RA RB HB ex0 ex1 ex2 ep0 ep1 ep2
  go_wp2
  go_ret2
  exact ⟨A3, c3, rfl, own3, HB3.out⟩
set_option maxRecDepth 100000 in
set_option maxHeartbeats 8000000 in
theorem specPlacesOf_any (W H : Int) (A : Option Addr) (n c B : Nat) (xs : List Int) (pW pH : Int) (A' : Option Addr) (n' c' B' : Nat) (ys : List Int) (w : World) (hR : Rd w B A n c xs) (hR' : Rd w B' A' n' c' ys) (hB : B ≤ w.heap.size) (hB' : B' ≤ w.heap.size) :
    Calls Try.prog 29 #[chartV W H (.slice A n c), chartV pW pH (.slice A' n' c')] w (OutF pairF w (placesX W H xs pW pH ys) (twoOk W H xs pW pH ys)) := by
  have hb0 := Lib.hid (((Below.refl w.heap.size w).alloc (Nat.le_refl _) (.cells #[.int .i64 W, .int .i64 H, .slice A n c] 26)).alloc (by simp) (.cells #[.int .i64 pW, .int .i64 pH, .slice A' n' c'] 26))
  have h1 := Lib.hid ((hR.alloc hB (.cells #[.int .i64 W, .int .i64 H, .slice A n c] 26)).alloc (by simp; omega) (.cells #[.int .i64 pW, .int .i64 pH, .slice A' n' c'] 26))
  have h2 := Lib.hid ((hR'.alloc hB' (.cells #[.int .i64 W, .int .i64 H, .slice A n c] 26)).alloc (by simp; omega) (.cells #[.int .i64 pW, .int .i64 pH, .slice A' n' c'] 26))
  have x0 := (Blk.new w #[.int .i64 W, .int .i64 H, .slice A n c] 26).alloc (.cells #[.int .i64 pW, .int .i64 pH, .slice A' n' c'] 26)
  have p0 := (Blk.new (w.alloc (.cells #[.int .i64 W, .int .i64 H, .slice A n c] 26)) #[.int .i64 pW, .int .i64 pH, .slice A' n' c'] 26).at_ (q := w.heap.size + 1) (by simp)
  by_cases g1 : goodB W H xs = true
  rotate_left
  · have hno := not_false g1
    have H' := Lib.hid (places_no (W := W) (H := H) (xs := xs) (pW := pW) (pH := pH) (ys := ys) (.inl hno))
    go_enter Try.func29, Try.ntmps29
    go_wp2_with fail
    refine (l2Good_any W H A n c B xs _ h1.out (by first | omega | (simp; done) | (simp; omega))).mono ?_
    rintro e w1 ⟨rfl, hb⟩
    have HB := Lib.hid (hb0.out.trans (hb.mono (by simp; omega)))
    rw [hno]
    clear hb x0 p0
    go_wp2
    go_ret2
    rw [H'.out.1, H'.out.2]
    exact ⟨_, 0, rfl, OwnF.empty pairF HB.out.size, HB.out.alloc HB.out.size _⟩
  by_cases g2 : goodB pW pH ys = true
  rotate_left
  · have hno := not_false g2
    have H' := Lib.hid (places_no (W := W) (H := H) (xs := xs) (pW := pW) (pH := pH) (ys := ys) (.inr hno))
    go_enter Try.func29, Try.ntmps29
    go_wp2_with fail
    refine (l2Good_any W H A n c B xs _ h1.out (by first | omega | (simp; done) | (simp; omega))).mono ?_
    rintro e w1 ⟨rfl, hb⟩
    have HB := Lib.hid (hb0.out.trans (hb.mono (by simp; omega)))
    have p1 := p0.all hb
    have R2 := Lib.hid (h2.out.all hb (by simp; omega))
    have hz1 : w.heap.size ≤ w1.heap.size := HB.out.size
    have hz2 : B' ≤ w1.heap.size := Nat.le_trans hB' hz1
    have e0 := p1.cell 0
    have e1 := p1.cell 1
    have e2 := p1.cell 2
    rw [g1]
    clear hb x0 p0
    go_wp2_with fail
    refine (l2Good_any pW pH A' n' c' B' ys _ R2.out (by first | omega | (simp; done) | (simp; omega))).mono ?_
    rintro e w2 ⟨rfl, hb⟩
    have HB2 := Lib.hid (HB.out.trans (hb.mono hz1))
    clear HB hb
    have HB := HB2
    rw [hno]
    go_wp2
    go_ret2
    rw [H'.out.1, H'.out.2]
    exact ⟨_, 0, rfl, OwnF.empty pairF HB.out.size, HB.out.alloc HB.out.size _⟩
  obtain ⟨hPX, hTW⟩ := places_yes g1 g2
  rw [hPX, hTW]
  clear hPX hTW
  obtain ⟨m, kk, rfl, rfl, m1, m8, k1, k8, hl, h64, hl1, hcx⟩ := good_nat g1
  obtain ⟨pm, pk, rfl, rfl, pm1, pm8, pk1, pk8, hl', h64', hl1', hcy⟩ := good_nat g2
  simp only [Int.toNat_natCast] at *
  obtain rfl := hR.len
  obtain rfl := hR'.len
  obtain ⟨b, off, rfl, _, _⟩ := hR.cells (by omega)
  obtain ⟨b', off', rfl, _, _⟩ := hR'.cells (by omega)
  clear hR hR'
  go_enter Try.func29, Try.ntmps29
  go_wp2_with fail
  refine (l2Good_any m kk _ _ c B xs _ h1.out (by simp; omega)).mono ?_
  rintro e w1 ⟨rfl, hb⟩
  have x1 := x0.all hb
  have p1 := p0.all hb
  have RA1 := Lib.hid (h1.out.all hb (by simp; omega))
  have RB1 := Lib.hid (h2.out.all hb (by simp; omega))
  have HB1 := Lib.hid (hb0.out.trans (hb.mono (by simp; omega)))
  have hz1 : w.heap.size ≤ w1.heap.size := HB1.out.size
  have e0 := p1.cell 0
  have e1 := p1.cell 1
  have e2 := p1.cell 2
  rw [g1]
  clear hb x0 p0 h1 h2 hb0 g1
  go_wp2_with fail
  refine (l2Good_any pm pk _ _ c' B' ys _ RB1.out (Nat.le_trans hB' hz1)).mono ?_
  rintro e w2 ⟨rfl, hb⟩
  have x2 := x1.all hb
  have p2 := p1.all hb
  have RA := Lib.hid (RA1.out.all hb (Nat.le_trans hB hz1))
  have RB := Lib.hid (RB1.out.all hb (Nat.le_trans hB' hz1))
  have HB := Lib.hid (HB1.out.trans (hb.mono hz1))
  have hz2 : w.heap.size ≤ w2.heap.size := HB.out.size
  rw [g2]
  clear hb x1 p1 RA1 RB1 HB1 hz1 e0 e1 e2 g2
  have ex0 := x2.cell 0
  have ex1 := x2.cell 1
  have ex2 := x2.cell 2
  have ep0 := p2.cell 0
  have ep1 := p2.cell 1
  have ep2 := p2.cell 2
  go_wp2_with fail
  refine (l6Places_any m kk pm pk b off c B b' off' c' B' xs ys _ RA.out RB.out (Nat.le_trans hB hz2) (Nat.le_trans hB' hz2) m8 k8 pm1 pk1 pm8 pk8 hl hl' (by have := hl.out; omega)).mono ?_
  rintro e w3 ⟨A3, c3, rfl, own3, hb3⟩
  have HB3 := Lib.hid (HB.out.trans (hb3.mono hz2))
  replace own3 := own3.mono hz2
  clear hb3 x2 p2 RA RB HB ex0 ex1 ex2 ep0 ep1 ep2
  go_wp2
  go_ret2
  exact ⟨A3, c3, rfl, own3, HB3.out⟩
end Go.Proofs.Ytehhidpmbbabeaa
