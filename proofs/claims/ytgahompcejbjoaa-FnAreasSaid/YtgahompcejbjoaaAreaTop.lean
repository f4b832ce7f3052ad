/- The walks of AreasOf and AreaCount, both texts. No condition. -/
import Derived.Test.YtgahompcejbjoaaNumbers
import Derived.Test.YtgahompcejbjoaaAreaIs
namespace Go.Proofs.Ytgahompcejbjoaa
open Go.RowKit

theorem good_open {W H : Int} {A : Option Addr} {n c B : Nat} {xs : List Int} {w : World} (hg : goodB W H xs = true) (h : Rd w B A n c xs) :
    ∃ m k b off : Nat, W = m ∧ H = k ∧ A = some ⟨b, off, none⟩ ∧ n = xs.length ∧ 1 ≤ m ∧ m ≤ 8 ∧ 1 ≤ k ∧ k ≤ 8 ∧ Hid (xs.length = m * k) ∧ xs.length ≤ 64 ∧ 1 ≤ xs.length ∧ Hid (∀ x ∈ xs, 0 ≤ x ∧ x < 6) := by
  obtain ⟨m, k, h1, h2, h3, h4, h5, h6, h7, h8, h9, h10⟩ := good_nat hg
  have hl := h.len
  obtain ⟨b, off, e, _⟩ := h.cells (by omega)
  exact ⟨m, k, b, off, h1, h2, e, hl.symm, h3, h4, h5, h6, h7, h8, h9, h10⟩
noncomputable def areasL (W H : Int) (xs : List Int) : List Int := if goodB W H xs = true then labsOf W.toNat xs else []
noncomputable def areasN (W H : Int) (xs : List Int) : Int := if goodB W H xs = true then ((cntOf W.toNat xs : Nat) : Int) else 0
theorem areasL_yes {m k : Nat} {xs : List Int} (h : goodB m k xs = true) : areasL m k xs = labsOf m xs := if_pos h
theorem areasL_no {W H : Int} {xs : List Int} (h : goodB W H xs = false) : areasL W H xs = [] := if_neg (by rw [h]; decide)
theorem areasN_yes {m k : Nat} {xs : List Int} (h : goodB m k xs = true) : areasN m k xs = ((cntOf m xs : Nat) : Int) := if_pos h
theorem areasN_no {W H : Int} {xs : List Int} (h : goodB W H xs = false) : areasN W H xs = 0 := if_neg (by rw [h]; decide)
theorem areasL_len (W H : Int) (xs : List Int) : (areasL W H xs).length ≤ 1048576 := by
  cases hg : goodB W H xs with
  | false => rw [areasL_no hg]; simp
  | true =>
    have := (good_bd hg).1
    rw [show areasL W H xs = labsOf W.toNat xs from if_pos hg, labs_len]
    omega
set_option maxRecDepth 100000 in
set_option maxHeartbeats 4000000 in
theorem implAreasOf_any (W H : Int) (A : Option Addr) (n c B : Nat) (xs : List Int) (w : World) (h : Rd w B A n c xs) (hB : B ≤ w.heap.size) :
    Calls Try.prog 6 #[chartV W H (.slice A n c)] w (OutInts w (areasL W H xs) (goodB W H xs)) := by
  cases hg : goodB W H xs with
  | false =>
    have HX := Lib.hid (areasL_no hg)
    have hb0 := Lib.hid (show Below w.heap.size w (w.alloc (.cells #[.int .i64 W, .int .i64 H, .slice A n c] 26)) from (Below.refl _ _).alloc (Nat.le_refl _) _)
    have h' := h.alloc hB (.cells #[.int .i64 W, .int .i64 H, .slice A n c] 26)
    go_enter Try.func6, Try.ntmps6
    go_wp2_with fail
    refine (implIsChart_any W H A n c B xs _ h' (by simp; omega)).mono ?_
    rintro e w1 ⟨rfl, hb⟩
    rw [hg]
    go_wp2
    go_ret2
    rw [HX.out]
    exact ⟨none, 0, rfl, Own.nil _ _, hb0.out.trans (hb.mono (by simp))⟩
  | true =>
    obtain ⟨m, k, b, off, rfl, rfl, rfl, rfl, hm, hm8, hk1, hk8, hl, h64, hN, _⟩ := good_open hg h
    have HX := Lib.hid (areasL_yes hg)
    have x0 := Cx.start (m := m) (k := k) h hB
    clear h
    go_enter Try.func6, Try.ntmps6
    go_upto_region 1 with fail
    generalize w.alloc (.cells #[.int .i64 m, .int .i64 k, .slice (some ⟨b, off, none⟩) xs.length c] 26) = w0 at *
    have e0 := x0.c0
    have e1 := x0.c1
    have e2 := x0.c2
    have hz0 := x0.sz
    go_wp2_with fail
    refine (implIsChart_any m k _ _ c B xs _ x0.rd (by omega)).mono ?_
    rintro e w1 ⟨rfl, hb⟩
    rw [hg]
    have x1 := x0.all hb
    clear hb e0 e1 e2 hz0 x0
    have e0 := x1.c0
    have e1 := x1.c1
    have e2 := x1.c2
    have hz1 := x1.sz
    have hzb : w.heap.size < w1.heap.size := hz1
    have x1d := x1.all (show Below w1.heap.size w1 w1.drew from ⟨rfl, rfl, rfl, Nat.le_refl _, fun _ _ => rfl⟩)
    have hBd : B ≤ w1.drew.heap.size := by show B ≤ w1.heap.size; omega
    go_wp2
    go_region_held3 (fun w' => w'.cell? ⟨w.heap.size, 0, none⟩ = some (.int .i64 m) ∧ w'.cell? ⟨w.heap.size, 1, none⟩ = some (.int .i64 k) ∧ w'.cell? ⟨w.heap.size, 2, none⟩ = some (.slice (some ⟨b, off, none⟩) xs.length c)) (first | exact ⟨e0, e1, e2⟩ | go_keep)
      (first | (go_at_call 27; (with_reducible refine (areasIn_any m k b off c B xs _ x1d.rd hBd hm hm8 hk1 hk8 hl).mono ?_); rintro e w3 ⟨A3, c3, ass, rfl, own3, hb3, HG⟩; (try replace hb3 := below_drew' hb3); have x3 := x1.all hb3; have hz3 := Nat.le_trans (Nat.le_of_lt hzb) hb3.size; have hB3 := Nat.le_trans hB hz3; replace e0 := cells_of hb3 e0 hzb; replace e1 := cells_of hb3 e1 hzb; replace e2 := cells_of hb3 e2 hzb; have hzb3 := Nat.lt_of_lt_of_le hzb hb3.size; clear hb3) | (go_at_call 26; (with_reducible refine (numbersIn_any m k b off c B _ c3 A3 xs ass _ x3.rd hB3 h64 hN own3 HG).mono ?_); rintro e w4 ⟨A4, c4, rfl, own4, hb4⟩; have x4 := x3.all hb4; replace e0 := cells_of hb4 e0 hzb3; replace e1 := cells_of hb4 e1 hzb3; replace e2 := cells_of hb4 e2 hzb3; clear hb4))
    clear e0 e1 e2
    have HLn := Lib.hid HG.out.2.2.1
    have o4 := own4.mono hz3
    have hb4 := x4.bel
    clear own4 x4 x3 x1 x1d own3
    go_wp2
    go_ret2
    rw [HX.out]
    exact ⟨A4, c4, by rw [HLn.out]; rfl, by rw [HLn.out]; exact o4, hb4⟩
set_option maxRecDepth 100000 in
set_option maxHeartbeats 4000000 in
theorem specAreasOf_any (W H : Int) (A : Option Addr) (n c B : Nat) (xs : List Int) (w : World) (h : Rd w B A n c xs) (hB : B ≤ w.heap.size) :
    Calls Try.prog 7 #[chartV W H (.slice A n c)] w (OutInts w (areasL W H xs) (goodB W H xs)) := by
  cases hg : goodB W H xs with
  | false =>
    have HX := Lib.hid (areasL_no hg)
    have hb0 := Lib.hid (show Below w.heap.size w (w.alloc (.cells #[.int .i64 W, .int .i64 H, .slice A n c] 26)) from (Below.refl _ _).alloc (Nat.le_refl _) _)
    have h' := h.alloc hB (.cells #[.int .i64 W, .int .i64 H, .slice A n c] 26)
    go_enter Try.func7, Try.ntmps7
    go_wp2_with fail
    refine (l2Good_any W H A n c B xs _ h' (by simp; omega)).mono ?_
    rintro e w1 ⟨rfl, hb⟩
    rw [hg]
    have hz : w.heap.size ≤ w1.heap.size := Nat.le_trans (by simp) hb.size
    go_wp2
    go_ret2
    rw [HX.out]
    exact ⟨_, 0, rfl, Own.empty hz, (hb0.out.trans (hb.mono (by simp))).alloc hz _⟩
  | true =>
    obtain ⟨m, k, b, off, rfl, rfl, rfl, rfl, hm, hm8, hk1, hk8, hl, h64, hN, _⟩ := good_open hg h
    have HX := Lib.hid (areasL_yes hg)
    have x0 := Cx.start (m := m) (k := k) h hB
    clear h
    go_enter Try.func7, Try.ntmps7
    go_upto_region 1 with fail
    generalize w.alloc (.cells #[.int .i64 m, .int .i64 k, .slice (some ⟨b, off, none⟩) xs.length c] 26) = w0 at *
    have e0 := x0.c0
    have e1 := x0.c1
    have e2 := x0.c2
    have hz0 := x0.sz
    go_wp2_with fail
    refine (l2Good_any m k _ _ c B xs _ x0.rd (by omega)).mono ?_
    rintro e w1 ⟨rfl, hb⟩
    rw [hg]
    have x1 := x0.all hb
    clear hb e0 e1 e2 hz0 x0
    have e0 := x1.c0
    have e1 := x1.c1
    have e2 := x1.c2
    have hz1 := x1.sz
    go_wp2_with fail
    refine (l12Areas_any m k b off c B xs _ x1.rd (by omega) hm hm8 hk1 hk8 hl).mono ?_
    rintro e w2 ⟨A2, c2, rfl, own2, hb2, hI⟩
    have HLn := Lib.hid hI.1
    have hb4 := (x1.all hb2).bel
    have o4 := own2.mono (show w.heap.size ≤ w1.heap.size by omega)
    clear own2 hb2 x1 e0 e1 e2 hI
    go_wp2
    go_ret2
    rw [HX.out]
    exact ⟨A2, c2, by rw [HLn.out]; rfl, by rw [HLn.out]; exact o4, hb4⟩
set_option maxRecDepth 100000 in
set_option maxHeartbeats 4000000 in
theorem implAreaCount_any (W H : Int) (A : Option Addr) (n c B : Nat) (xs : List Int) (w : World) (h : Rd w B A n c xs) (hB : B ≤ w.heap.size) :
    Calls Try.prog 9 #[chartV W H (.slice A n c)] w (Out w (.tuple #[.int .i64 (areasN W H xs), .bool (goodB W H xs)])) := by
  cases hg : goodB W H xs with
  | false =>
    have HX := Lib.hid (areasN_no hg)
    have hb0 := Lib.hid (show Below w.heap.size w (w.alloc (.cells #[.int .i64 W, .int .i64 H, .slice A n c] 26)) from (Below.refl _ _).alloc (Nat.le_refl _) _)
    have h' := h.alloc hB (.cells #[.int .i64 W, .int .i64 H, .slice A n c] 26)
    rw [HX.out]
    go_enter Try.func9, Try.ntmps9
    go_wp2_with fail
    refine (implIsChart_any W H A n c B xs _ h' (by simp; omega)).mono ?_
    rintro e w1 ⟨rfl, hb⟩
    rw [hg]
    go_wp2
    go_ret2
    exact ⟨rfl, hb0.out.trans (hb.mono (by simp))⟩
  | true =>
    obtain ⟨m, k, b, off, rfl, rfl, rfl, rfl, hm, hm8, hk1, hk8, hl, h64, hN, _⟩ := good_open hg h
    have HX := Lib.hid (areasN_yes hg)
    have x0 := Cx.start (m := m) (k := k) h hB
    clear h
    go_enter Try.func9, Try.ntmps9
    go_upto_region 1 with fail
    generalize w.alloc (.cells #[.int .i64 m, .int .i64 k, .slice (some ⟨b, off, none⟩) xs.length c] 26) = w0 at *
    have e0 := x0.c0
    have e1 := x0.c1
    have e2 := x0.c2
    have hz0 := x0.sz
    go_wp2_with fail
    refine (implIsChart_any m k _ _ c B xs _ x0.rd (by omega)).mono ?_
    rintro e w1 ⟨rfl, hb⟩
    rw [hg]
    have x1 := x0.all hb
    clear hb e0 e1 e2 hz0 x0
    have e0 := x1.c0
    have e1 := x1.c1
    have e2 := x1.c2
    have hz1 := x1.sz
    go_wp2_with fail
    refine (areasIn_any m k b off c B xs _ x1.rd (by omega) hm hm8 hk1 hk8 hl).mono ?_
    rintro e w2 ⟨A2, c2, ass, rfl, own2, hb2, HG⟩
    have hb4 := (x1.all hb2).bel
    have HC := Lib.hid (show ((cntOf m xs : Nat) : Int) = (ass.length : Int) by rw [HG.out.1])
    clear own2 hb2 x1 e0 e1 e2
    go_wp2
    go_ret2
    rw [HX.out, HC.out]
    exact ⟨rfl, hb4⟩
set_option maxRecDepth 100000 in
set_option maxHeartbeats 4000000 in
theorem specAreaCount_any (W H : Int) (A : Option Addr) (n c B : Nat) (xs : List Int) (w : World) (h : Rd w B A n c xs) (hB : B ≤ w.heap.size) :
    Calls Try.prog 10 #[chartV W H (.slice A n c)] w (Out w (.tuple #[.int .i64 (areasN W H xs), .bool (goodB W H xs)])) := by
  cases hg : goodB W H xs with
  | false =>
    have HX := Lib.hid (areasN_no hg)
    have hb0 := Lib.hid (show Below w.heap.size w (w.alloc (.cells #[.int .i64 W, .int .i64 H, .slice A n c] 26)) from (Below.refl _ _).alloc (Nat.le_refl _) _)
    have h' := h.alloc hB (.cells #[.int .i64 W, .int .i64 H, .slice A n c] 26)
    rw [HX.out]
    go_enter Try.func10, Try.ntmps10
    go_wp2_with fail
    refine (l2Good_any W H A n c B xs _ h' (by simp; omega)).mono ?_
    rintro e w1 ⟨rfl, hb⟩
    rw [hg]
    go_wp2
    go_ret2
    exact ⟨rfl, hb0.out.trans (hb.mono (by simp))⟩
  | true =>
    obtain ⟨m, k, b, off, rfl, rfl, rfl, rfl, hm, hm8, hk1, hk8, hl, h64, hN, _⟩ := good_open hg h
    have HX := Lib.hid (areasN_yes hg)
    have x0 := Cx.start (m := m) (k := k) h hB
    clear h
    go_enter Try.func10, Try.ntmps10
    go_upto_region 1 with fail
    generalize w.alloc (.cells #[.int .i64 m, .int .i64 k, .slice (some ⟨b, off, none⟩) xs.length c] 26) = w0 at *
    have e0 := x0.c0
    have e1 := x0.c1
    have e2 := x0.c2
    have hz0 := x0.sz
    go_wp2_with fail
    refine (l2Good_any m k _ _ c B xs _ x0.rd (by omega)).mono ?_
    rintro e w1 ⟨rfl, hb⟩
    rw [hg]
    have x1 := x0.all hb
    clear hb e0 e1 e2 hz0 x0
    have e0 := x1.c0
    have e1 := x1.c1
    have e2 := x1.c2
    have hz1 := x1.sz
    go_wp2_with fail
    refine (l12Areas_any m k b off c B xs _ x1.rd (by omega) hm hm8 hk1 hk8 hl).mono ?_
    rintro e w2 ⟨A2, c2, rfl, own2, hb2, hI⟩
    have hb4 := (x1.all hb2).bel
    clear own2 hb2 x1 e0 e1 e2 hI
    go_wp2
    go_ret2
    rw [HX.out]
    exact ⟨rfl, hb4⟩
end Go.Proofs.Ytgahompcejbjoaa
