/- The walks of MergePhotos, both texts, and of the model's l13Size. No condition. -/
import Derived.Test.YtgkflgfjbaobcaaSameSize
import Derived.Test.YtgkflgfjbaobcaaCopy
import Derived.Test.YtgkflgfjbaobcaaMakeI
import Derived.Test.YtgkflgfjbaobcaaFar3
import Derived.Test.YtgkflgfjbaobcaaChX
namespace Go.Proofs.Ytgkflgfjbaobcaa
open Go.RowKit

set_option maxRecDepth 100000 in
set_option maxHeartbeats 4000000 in
theorem l13Size_any (V0 H0 : Int) (A0 : Option Addr) (n0 c0 B0 : Nat) (xs0 : List Int) (V1 H1 : Int) (A1 : Option Addr) (n1 c1 B1 : Nat) (xs1 : List Int) (w : World) (h0 : Rd w B0 A0 n0 c0 xs0) (hB0 : B0 ≤ w.heap.size) (h1 : Rd w B1 A1 n1 c1 xs1) (hB1 : B1 ≤ w.heap.size) :
    Calls Try.prog 25 #[chartV V0 H0 (.slice A0 n0 c0), chartV V1 H1 (.slice A1 n1 c1)] w (Out w (.bool (sizeB V0 H0 xs0 V1 H1 xs1))) := by
  obtain rfl := h0.len
  obtain rfl := h1.len
  obtain ⟨g0, hg0⟩ : ∃ g, goodB V0 H0 xs0 = g := ⟨_, rfl⟩
  obtain ⟨g1, hg1⟩ : ∃ g, goodB V1 H1 xs1 = g := ⟨_, rfl⟩
  obtain ⟨t0, ht0⟩ : ∃ t, (V0 == V1) = t := ⟨_, rfl⟩
  obtain ⟨t1, ht1⟩ : ∃ t, (H0 == H1) = t := ⟨_, rfl⟩
  have HS := Lib.hid (show sizeB V0 H0 xs0 V1 H1 xs1 = (g0 && g1 && t0 && t1) by unfold sizeB; rw [hg0, hg1, ht0, ht1])
  have HB := Lib.hid (((Below.refl w.heap.size w).alloc (by first | (simp; done) | (simp; omega) | omega) (.cells #[.int .i64 V0, .int .i64 H0, .slice A0 xs0.length c0] 26)).alloc (by first | (simp; done) | (simp; omega) | omega) (.cells #[.int .i64 V1, .int .i64 H1, .slice A1 xs1.length c1] 26))
  have R0 := (((h0)).alloc (hB0) (.cells #[.int .i64 V0, .int .i64 H0, .slice A0 xs0.length c0] 26)).alloc ((by first | (simp; done) | (simp; omega) | omega)) (.cells #[.int .i64 V1, .int .i64 H1, .slice A1 xs1.length c1] 26)
  have R1 := (((h1)).alloc (hB1) (.cells #[.int .i64 V0, .int .i64 H0, .slice A0 xs0.length c0] 26)).alloc ((by first | (simp; done) | (simp; omega) | omega)) (.cells #[.int .i64 V1, .int .i64 H1, .slice A1 xs1.length c1] 26)
  have x := ((Blk.new w #[.int .i64 V0, .int .i64 H0, .slice A0 xs0.length c0] 26).alloc (.cells #[.int .i64 V1, .int .i64 H1, .slice A1 xs1.length c1] 26)).at_ (q := w.heap.size) (by simp)
  have y := (Blk.new (w.alloc (.cells #[.int .i64 V0, .int .i64 H0, .slice A0 xs0.length c0] 26)) #[.int .i64 V1, .int .i64 H1, .slice A1 xs1.length c1] 26).at_ (q := w.heap.size + 1) (by simp)
  have hsz : w.heap.size + 2 ≤ ((w.alloc (.cells #[.int .i64 V0, .int .i64 H0, .slice A0 xs0.length c0] 26)).alloc (.cells #[.int .i64 V1, .int .i64 H1, .slice A1 xs1.length c1] 26)).heap.size := by simp
  clear h0 h1
  go_enter Try.func25, Try.ntmps25
  go_wp2_with fail
  obtain ⟨W0, hW0⟩ : ∃ v, ((w.alloc (.cells #[.int .i64 V0, .int .i64 H0, .slice A0 xs0.length c0] 26)).alloc (.cells #[.int .i64 V1, .int .i64 H1, .slice A1 xs1.length c1] 26)) = v := ⟨_, rfl⟩
  rw [hW0] at HB hsz R0 R1 x y ⊢
  clear hW0
  have ex0 := x.cell 0
  have ex1 := x.cell 1
  have ex2 := x.cell 2
  have zx := x.lt
  have ey0 := y.cell 0
  have ey1 := y.cell 1
  have ey2 := y.cell 2
  have zy := y.lt
  go_wp2_with fail
  refine (l2Good_any V0 H0 A0 _ c0 _ xs0 _ R0 (Nat.le_trans hB0 (by omega))).mono ?_
  rintro e w1 ⟨rfl, hb⟩
  clear ex0 ex1 ex2 zx ey0 ey1 ey2 zy
  replace x := x.all hb
  replace y := y.all hb
  replace R0 := R0.all hb (Nat.le_trans (hB0) (by omega))
  replace R1 := R1.all hb (Nat.le_trans (hB1) (by omega))
  replace HB := Lib.hid (HB.out.trans (hb.mono (by omega)))
  replace hsz := Nat.le_trans hsz hb.size
  clear hb
  rw [hg0]
  cases g0 with
  | false =>
    go_wp2
    go_ret
    exact ⟨ret_bool HS.out.symm, HB.out⟩
  | true =>
    have ex0 := x.cell 0
    have ex1 := x.cell 1
    have ex2 := x.cell 2
    have zx := x.lt
    have ey0 := y.cell 0
    have ey1 := y.cell 1
    have ey2 := y.cell 2
    have zy := y.lt
    go_wp2_with fail
    refine (l2Good_any V1 H1 A1 _ c1 _ xs1 _ R1 (Nat.le_trans hB1 (by omega))).mono ?_
    rintro e w2 ⟨rfl, hb⟩
    clear ex0 ex1 ex2 zx ey0 ey1 ey2 zy
    replace x := x.all hb
    replace y := y.all hb
    replace R0 := R0.all hb (Nat.le_trans (hB0) (by omega))
    replace R1 := R1.all hb (Nat.le_trans (hB1) (by omega))
    replace HB := Lib.hid (HB.out.trans (hb.mono (by omega)))
    replace hsz := Nat.le_trans hsz hb.size
    clear hb
    rw [hg1]
    cases g1 with
    | false =>
      go_wp2
      go_ret
      exact ⟨ret_bool HS.out.symm, HB.out⟩
    | true =>
      have ex0 := x.cell 0
      have ex1 := x.cell 1
      have ex2 := x.cell 2
      have zx := x.lt
      have ey0 := y.cell 0
      have ey1 := y.cell 1
      have ey2 := y.cell 2
      have zy := y.lt
      cases t0 with
      | false =>
        go_wp2
        go_ret
        exact ⟨ret_bool HS.out.symm, HB.out⟩
      | true =>
        cases t1 with
        | false =>
          go_wp2
          go_ret
          exact ⟨ret_bool HS.out.symm, HB.out⟩
        | true =>
          go_wp2
          go_ret
          exact ⟨ret_bool HS.out.symm, HB.out⟩
end Go.Proofs.Ytgkflgfjbaobcaa
