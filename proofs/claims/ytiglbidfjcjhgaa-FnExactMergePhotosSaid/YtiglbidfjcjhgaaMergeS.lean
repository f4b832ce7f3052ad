/- The walks of MergePhotos, both texts, and of the model's l13Size. No condition. -/
import Derived.Test.YtiglbidfjcjhgaaSameSize
import Derived.Test.YtiglbidfjcjhgaaCopy
import Derived.Test.YtiglbidfjcjhgaaMakeI
import Derived.Test.YtiglbidfjcjhgaaFar3
import Derived.Test.YtiglbidfjcjhgaaChX
import Derived.Test.YtiglbidfjcjhgaaSizeS
namespace Go.Proofs.Ytiglbidfjcjhgaa
open Go.RowKit

set_option maxRecDepth 100000 in
set_option maxHeartbeats 8000000 in
theorem specMergePhotos_any (V0 H0 : Int) (A0 : Option Addr) (n0 c0 B0 : Nat) (xs0 : List Int) (V1 H1 : Int) (A1 : Option Addr) (n1 c1 B1 : Nat) (xs1 : List Int) (V2 H2 : Int) (A2 : Option Addr) (n2 c2 B2 : Nat) (xs2 : List Int) (w : World) (h0 : Rd w B0 A0 n0 c0 xs0) (hB0 : B0 ≤ w.heap.size) (h1 : Rd w B1 A1 n1 c1 xs1) (hB1 : B1 ≤ w.heap.size) (h2 : Rd w B2 A2 n2 c2 xs2) (hB2 : B2 ≤ w.heap.size) :
    Calls Try.prog 36 #[chartV V0 H0 (.slice A0 n0 c0), chartV V1 H1 (.slice A1 n1 c1), chartV V2 H2 (.slice A2 n2 c2)] w (OutChart w (orZero (okM V0 H0 xs0 V1 H1 xs1 V2 H2 xs2) V0) (orZero (okM V0 H0 xs0 V1 H1 xs1 V2 H2 xs2) H0) (mgX V0 H0 xs0 V1 H1 xs1 V2 H2 xs2) (okM V0 H0 xs0 V1 H1 xs1 V2 H2 xs2)) := by
  obtain rfl := h0.len
  obtain rfl := h1.len
  obtain rfl := h2.len
  have HF0 := h0.fits
  have HF1 := h1.fits
  cases hs1 : sizeB V0 H0 xs0 V1 H1 xs1 with
  | false =>
    have hok := okM_s1 (W2 := V2) (H2 := H2) (xs2 := xs2) hs1
    have HX := Lib.hid (mgX_no hok)
    have hok2 := Lib.hid hok
    clear hok
    have HB := Lib.hid (((((Below.refl w.heap.size w).alloc (by first | (simp; done) | (simp; omega) | omega) (.cells #[.int .i64 V0, .int .i64 H0, .slice A0 xs0.length c0] 28)).alloc (by first | (simp; done) | (simp; omega) | omega) (.cells #[.int .i64 V1, .int .i64 H1, .slice A1 xs1.length c1] 28)).alloc (by first | (simp; done) | (simp; omega) | omega) (.cells #[.int .i64 V2, .int .i64 H2, .slice A2 xs2.length c2] 28)).alloc (by first | (simp; done) | (simp; omega) | omega) (.cells #[.int .i64 0, .int .i64 0, .slice none 0 0] 28))
    have R0 := (((((h0)).alloc (hB0) (.cells #[.int .i64 V0, .int .i64 H0, .slice A0 xs0.length c0] 28)).alloc ((by first | (simp; done) | (simp; omega) | omega)) (.cells #[.int .i64 V1, .int .i64 H1, .slice A1 xs1.length c1] 28)).alloc ((by first | (simp; done) | (simp; omega) | omega)) (.cells #[.int .i64 V2, .int .i64 H2, .slice A2 xs2.length c2] 28)).alloc ((by first | (simp; done) | (simp; omega) | omega)) (.cells #[.int .i64 0, .int .i64 0, .slice none 0 0] 28)
    have R1 := (((((h1)).alloc (hB1) (.cells #[.int .i64 V0, .int .i64 H0, .slice A0 xs0.length c0] 28)).alloc ((by first | (simp; done) | (simp; omega) | omega)) (.cells #[.int .i64 V1, .int .i64 H1, .slice A1 xs1.length c1] 28)).alloc ((by first | (simp; done) | (simp; omega) | omega)) (.cells #[.int .i64 V2, .int .i64 H2, .slice A2 xs2.length c2] 28)).alloc ((by first | (simp; done) | (simp; omega) | omega)) (.cells #[.int .i64 0, .int .i64 0, .slice none 0 0] 28)
    have R2 := (((((h2)).alloc (hB2) (.cells #[.int .i64 V0, .int .i64 H0, .slice A0 xs0.length c0] 28)).alloc ((by first | (simp; done) | (simp; omega) | omega)) (.cells #[.int .i64 V1, .int .i64 H1, .slice A1 xs1.length c1] 28)).alloc ((by first | (simp; done) | (simp; omega) | omega)) (.cells #[.int .i64 V2, .int .i64 H2, .slice A2 xs2.length c2] 28)).alloc ((by first | (simp; done) | (simp; omega) | omega)) (.cells #[.int .i64 0, .int .i64 0, .slice none 0 0] 28)
    have x := ((((Blk.new w #[.int .i64 V0, .int .i64 H0, .slice A0 xs0.length c0] 28).alloc (.cells #[.int .i64 V1, .int .i64 H1, .slice A1 xs1.length c1] 28)).alloc (.cells #[.int .i64 V2, .int .i64 H2, .slice A2 xs2.length c2] 28)).alloc (.cells #[.int .i64 0, .int .i64 0, .slice none 0 0] 28)).at_ (q := w.heap.size) (by simp)
    have y := (((Blk.new (w.alloc (.cells #[.int .i64 V0, .int .i64 H0, .slice A0 xs0.length c0] 28)) #[.int .i64 V1, .int .i64 H1, .slice A1 xs1.length c1] 28).alloc (.cells #[.int .i64 V2, .int .i64 H2, .slice A2 xs2.length c2] 28)).alloc (.cells #[.int .i64 0, .int .i64 0, .slice none 0 0] 28)).at_ (q := w.heap.size + 1) (by simp)
    have z := ((Blk.new ((w.alloc (.cells #[.int .i64 V0, .int .i64 H0, .slice A0 xs0.length c0] 28)).alloc (.cells #[.int .i64 V1, .int .i64 H1, .slice A1 xs1.length c1] 28)) #[.int .i64 V2, .int .i64 H2, .slice A2 xs2.length c2] 28).alloc (.cells #[.int .i64 0, .int .i64 0, .slice none 0 0] 28)).at_ (q := w.heap.size + 1 + 1) (by simp)
    have r := (Blk.new (((w.alloc (.cells #[.int .i64 V0, .int .i64 H0, .slice A0 xs0.length c0] 28)).alloc (.cells #[.int .i64 V1, .int .i64 H1, .slice A1 xs1.length c1] 28)).alloc (.cells #[.int .i64 V2, .int .i64 H2, .slice A2 xs2.length c2] 28)) #[.int .i64 0, .int .i64 0, .slice none 0 0] 28).at_ (q := w.heap.size + 1 + 1 + 1) (by simp)
    have hsz : w.heap.size + 4 ≤ ((((w.alloc (.cells #[.int .i64 V0, .int .i64 H0, .slice A0 xs0.length c0] 28)).alloc (.cells #[.int .i64 V1, .int .i64 H1, .slice A1 xs1.length c1] 28)).alloc (.cells #[.int .i64 V2, .int .i64 H2, .slice A2 xs2.length c2] 28)).alloc (.cells #[.int .i64 0, .int .i64 0, .slice none 0 0] 28)).heap.size := by simp
    clear h0 h1 h2
    go_enter Try.func36, Try.ntmps36
    go_wp2_with fail
    obtain ⟨W0, hW0⟩ : ∃ v, ((((w.alloc (.cells #[.int .i64 V0, .int .i64 H0, .slice A0 xs0.length c0] 28)).alloc (.cells #[.int .i64 V1, .int .i64 H1, .slice A1 xs1.length c1] 28)).alloc (.cells #[.int .i64 V2, .int .i64 H2, .slice A2 xs2.length c2] 28)).alloc (.cells #[.int .i64 0, .int .i64 0, .slice none 0 0] 28)) = v := ⟨_, rfl⟩
    rw [hW0] at HB hsz R0 R1 R2 x y z r ⊢
    clear hW0
    have ex0 := x.cell 0
    have ex1 := x.cell 1
    have ex2 := x.cell 2
    have zx := x.lt
    have ey0 := y.cell 0
    have ey1 := y.cell 1
    have ey2 := y.cell 2
    have zy := y.lt
    have ez0 := z.cell 0
    have ez1 := z.cell 1
    have ez2 := z.cell 2
    have zz := z.lt
    have er0 := r.cell 0
    have er1 := r.cell 1
    have er2 := r.cell 2
    have zr := r.lt
    go_wp2_with fail
    refine (l13Size_any V0 H0 A0 _ c0 _ xs0 V1 H1 A1 _ c1 _ xs1 _ R0 (Nat.le_trans hB0 (by omega)) R1 (Nat.le_trans hB1 (by omega))).mono ?_
    rintro e w1 ⟨rfl, hb⟩
    clear ex0 ex1 ex2 zx ey0 ey1 ey2 zy ez0 ez1 ez2 zz er0 er1 er2 zr
    replace x := x.all hb
    replace y := y.all hb
    replace z := z.all hb
    replace r := r.all hb
    replace R0 := R0.all hb (Nat.le_trans (hB0) (by omega))
    replace R1 := R1.all hb (Nat.le_trans (hB1) (by omega))
    replace R2 := R2.all hb (Nat.le_trans (hB2) (by omega))
    replace HB := Lib.hid (HB.out.trans (hb.mono (by omega)))
    replace hsz := Nat.le_trans hsz hb.size
    clear hb
    rw [hs1]
    have ex0 := x.cell 0
    have ex1 := x.cell 1
    have ex2 := x.cell 2
    have zx := x.lt
    have ey0 := y.cell 0
    have ey1 := y.cell 1
    have ey2 := y.cell 2
    have zy := y.lt
    have ez0 := z.cell 0
    have ez1 := z.cell 1
    have ez2 := z.cell 2
    have zz := z.lt
    have er0 := r.cell 0
    have er1 := r.cell 1
    have er2 := r.cell 2
    have fr0 := r.frozen 0
    have fr1 := r.frozen 1
    have fr2 := r.frozen 2
    have zr := r.lt
    have F := fin3 (p := w.heap.size + 1 + 1 + 1) (a := .int .i64 0) (b := .int .i64 0) (c := .slice none 0 0) (Own.nil w1 w.heap.size) (by simp [Value.ownBlock]) HB.out (by omega)
    go_wp2_with fail
    exact bodyPost_ret (v := .tuple #[.agg #[.int .i64 0, .int .i64 0, .slice none 0 0], .bool false]) (by simp [results, Try.results36, go_sem, er0, er1, er2]) rfl ⟨none, 0, by rw [HX.out, hok2.out]; rfl, by rw [HX.out]; exact F.1, F.2⟩
  | true =>
    cases hs2 : sizeB V0 H0 xs0 V2 H2 xs2 with
    | false =>
      have hok := okM_s2 (W1 := V1) (H1 := H1) (xs1 := xs1) hs2
      have HX := Lib.hid (mgX_no hok)
      have hok2 := Lib.hid hok
      clear hok
      have HB := Lib.hid (((((Below.refl w.heap.size w).alloc (by first | (simp; done) | (simp; omega) | omega) (.cells #[.int .i64 V0, .int .i64 H0, .slice A0 xs0.length c0] 28)).alloc (by first | (simp; done) | (simp; omega) | omega) (.cells #[.int .i64 V1, .int .i64 H1, .slice A1 xs1.length c1] 28)).alloc (by first | (simp; done) | (simp; omega) | omega) (.cells #[.int .i64 V2, .int .i64 H2, .slice A2 xs2.length c2] 28)).alloc (by first | (simp; done) | (simp; omega) | omega) (.cells #[.int .i64 0, .int .i64 0, .slice none 0 0] 28))
      have R0 := (((((h0)).alloc (hB0) (.cells #[.int .i64 V0, .int .i64 H0, .slice A0 xs0.length c0] 28)).alloc ((by first | (simp; done) | (simp; omega) | omega)) (.cells #[.int .i64 V1, .int .i64 H1, .slice A1 xs1.length c1] 28)).alloc ((by first | (simp; done) | (simp; omega) | omega)) (.cells #[.int .i64 V2, .int .i64 H2, .slice A2 xs2.length c2] 28)).alloc ((by first | (simp; done) | (simp; omega) | omega)) (.cells #[.int .i64 0, .int .i64 0, .slice none 0 0] 28)
      have R1 := (((((h1)).alloc (hB1) (.cells #[.int .i64 V0, .int .i64 H0, .slice A0 xs0.length c0] 28)).alloc ((by first | (simp; done) | (simp; omega) | omega)) (.cells #[.int .i64 V1, .int .i64 H1, .slice A1 xs1.length c1] 28)).alloc ((by first | (simp; done) | (simp; omega) | omega)) (.cells #[.int .i64 V2, .int .i64 H2, .slice A2 xs2.length c2] 28)).alloc ((by first | (simp; done) | (simp; omega) | omega)) (.cells #[.int .i64 0, .int .i64 0, .slice none 0 0] 28)
      have R2 := (((((h2)).alloc (hB2) (.cells #[.int .i64 V0, .int .i64 H0, .slice A0 xs0.length c0] 28)).alloc ((by first | (simp; done) | (simp; omega) | omega)) (.cells #[.int .i64 V1, .int .i64 H1, .slice A1 xs1.length c1] 28)).alloc ((by first | (simp; done) | (simp; omega) | omega)) (.cells #[.int .i64 V2, .int .i64 H2, .slice A2 xs2.length c2] 28)).alloc ((by first | (simp; done) | (simp; omega) | omega)) (.cells #[.int .i64 0, .int .i64 0, .slice none 0 0] 28)
      have x := ((((Blk.new w #[.int .i64 V0, .int .i64 H0, .slice A0 xs0.length c0] 28).alloc (.cells #[.int .i64 V1, .int .i64 H1, .slice A1 xs1.length c1] 28)).alloc (.cells #[.int .i64 V2, .int .i64 H2, .slice A2 xs2.length c2] 28)).alloc (.cells #[.int .i64 0, .int .i64 0, .slice none 0 0] 28)).at_ (q := w.heap.size) (by simp)
      have y := (((Blk.new (w.alloc (.cells #[.int .i64 V0, .int .i64 H0, .slice A0 xs0.length c0] 28)) #[.int .i64 V1, .int .i64 H1, .slice A1 xs1.length c1] 28).alloc (.cells #[.int .i64 V2, .int .i64 H2, .slice A2 xs2.length c2] 28)).alloc (.cells #[.int .i64 0, .int .i64 0, .slice none 0 0] 28)).at_ (q := w.heap.size + 1) (by simp)
      have z := ((Blk.new ((w.alloc (.cells #[.int .i64 V0, .int .i64 H0, .slice A0 xs0.length c0] 28)).alloc (.cells #[.int .i64 V1, .int .i64 H1, .slice A1 xs1.length c1] 28)) #[.int .i64 V2, .int .i64 H2, .slice A2 xs2.length c2] 28).alloc (.cells #[.int .i64 0, .int .i64 0, .slice none 0 0] 28)).at_ (q := w.heap.size + 1 + 1) (by simp)
      have r := (Blk.new (((w.alloc (.cells #[.int .i64 V0, .int .i64 H0, .slice A0 xs0.length c0] 28)).alloc (.cells #[.int .i64 V1, .int .i64 H1, .slice A1 xs1.length c1] 28)).alloc (.cells #[.int .i64 V2, .int .i64 H2, .slice A2 xs2.length c2] 28)) #[.int .i64 0, .int .i64 0, .slice none 0 0] 28).at_ (q := w.heap.size + 1 + 1 + 1) (by simp)
      have hsz : w.heap.size + 4 ≤ ((((w.alloc (.cells #[.int .i64 V0, .int .i64 H0, .slice A0 xs0.length c0] 28)).alloc (.cells #[.int .i64 V1, .int .i64 H1, .slice A1 xs1.length c1] 28)).alloc (.cells #[.int .i64 V2, .int .i64 H2, .slice A2 xs2.length c2] 28)).alloc (.cells #[.int .i64 0, .int .i64 0, .slice none 0 0] 28)).heap.size := by simp
      clear h0 h1 h2
      go_enter Try.func36, Try.ntmps36
      go_wp2_with fail
      obtain ⟨W0, hW0⟩ : ∃ v, ((((w.alloc (.cells #[.int .i64 V0, .int .i64 H0, .slice A0 xs0.length c0] 28)).alloc (.cells #[.int .i64 V1, .int .i64 H1, .slice A1 xs1.length c1] 28)).alloc (.cells #[.int .i64 V2, .int .i64 H2, .slice A2 xs2.length c2] 28)).alloc (.cells #[.int .i64 0, .int .i64 0, .slice none 0 0] 28)) = v := ⟨_, rfl⟩
      rw [hW0] at HB hsz R0 R1 R2 x y z r ⊢
      clear hW0
      have ex0 := x.cell 0
      have ex1 := x.cell 1
      have ex2 := x.cell 2
      have zx := x.lt
      have ey0 := y.cell 0
      have ey1 := y.cell 1
      have ey2 := y.cell 2
      have zy := y.lt
      have ez0 := z.cell 0
      have ez1 := z.cell 1
      have ez2 := z.cell 2
      have zz := z.lt
      have er0 := r.cell 0
      have er1 := r.cell 1
      have er2 := r.cell 2
      have zr := r.lt
      go_wp2_with fail
      refine (l13Size_any V0 H0 A0 _ c0 _ xs0 V1 H1 A1 _ c1 _ xs1 _ R0 (Nat.le_trans hB0 (by omega)) R1 (Nat.le_trans hB1 (by omega))).mono ?_
      rintro e w1 ⟨rfl, hb⟩
      clear ex0 ex1 ex2 zx ey0 ey1 ey2 zy ez0 ez1 ez2 zz er0 er1 er2 zr
      replace x := x.all hb
      replace y := y.all hb
      replace z := z.all hb
      replace r := r.all hb
      replace R0 := R0.all hb (Nat.le_trans (hB0) (by omega))
      replace R1 := R1.all hb (Nat.le_trans (hB1) (by omega))
      replace R2 := R2.all hb (Nat.le_trans (hB2) (by omega))
      replace HB := Lib.hid (HB.out.trans (hb.mono (by omega)))
      replace hsz := Nat.le_trans hsz hb.size
      clear hb
      rw [hs1]
      have ex0 := x.cell 0
      have ex1 := x.cell 1
      have ex2 := x.cell 2
      have zx := x.lt
      have ey0 := y.cell 0
      have ey1 := y.cell 1
      have ey2 := y.cell 2
      have zy := y.lt
      have ez0 := z.cell 0
      have ez1 := z.cell 1
      have ez2 := z.cell 2
      have zz := z.lt
      have er0 := r.cell 0
      have er1 := r.cell 1
      have er2 := r.cell 2
      have zr := r.lt
      go_wp2_with fail
      refine (l13Size_any V0 H0 A0 _ c0 _ xs0 V2 H2 A2 _ c2 _ xs2 _ R0 (Nat.le_trans hB0 (by omega)) R2 (Nat.le_trans hB2 (by omega))).mono ?_
      rintro e w2 ⟨rfl, hb⟩
      clear ex0 ex1 ex2 zx ey0 ey1 ey2 zy ez0 ez1 ez2 zz er0 er1 er2 zr
      replace x := x.all hb
      replace y := y.all hb
      replace z := z.all hb
      replace r := r.all hb
      replace R0 := R0.all hb (Nat.le_trans (hB0) (by omega))
      replace R1 := R1.all hb (Nat.le_trans (hB1) (by omega))
      replace R2 := R2.all hb (Nat.le_trans (hB2) (by omega))
      replace HB := Lib.hid (HB.out.trans (hb.mono (by omega)))
      replace hsz := Nat.le_trans hsz hb.size
      clear hb
      rw [hs2]
      have ex0 := x.cell 0
      have ex1 := x.cell 1
      have ex2 := x.cell 2
      have zx := x.lt
      have ey0 := y.cell 0
      have ey1 := y.cell 1
      have ey2 := y.cell 2
      have zy := y.lt
      have ez0 := z.cell 0
      have ez1 := z.cell 1
      have ez2 := z.cell 2
      have zz := z.lt
      have er0 := r.cell 0
      have er1 := r.cell 1
      have er2 := r.cell 2
      have fr0 := r.frozen 0
      have fr1 := r.frozen 1
      have fr2 := r.frozen 2
      have zr := r.lt
      have F := fin3 (p := w.heap.size + 1 + 1 + 1) (a := .int .i64 0) (b := .int .i64 0) (c := .slice none 0 0) (Own.nil w2 w.heap.size) (by simp [Value.ownBlock]) HB.out (by omega)
      go_wp2_with fail
      exact bodyPost_ret (v := .tuple #[.agg #[.int .i64 0, .int .i64 0, .slice none 0 0], .bool false]) (by simp [results, Try.results36, go_sem, er0, er1, er2]) rfl ⟨none, 0, by rw [HX.out, hok2.out]; rfl, by rw [HX.out]; exact F.1, F.2⟩
    | true =>
      have hok := okM_s3 hs1 hs2
      obtain ⟨m, k, rfl, rfl, rfl, rfl, rfl, rfl, hl1, hl2, h64, h1n⟩ := okM_open hok
      have HX := Lib.hid (mgX_yes hok)
      have hok2 := Lib.hid hok
      clear hok
      obtain ⟨b0, off0, rfl, _, _⟩ := h0.cells h1n
      obtain ⟨b1, off1, rfl, _, _⟩ := h1.cells (by rw [hl1.out]; exact h1n)
      obtain ⟨b2, off2, rfl, _, _⟩ := h2.cells (by rw [hl2.out]; exact h1n)
      have HB := Lib.hid (((((Below.refl w.heap.size w).alloc (by first | (simp; done) | (simp; omega) | omega) (.cells #[.int .i64 m, .int .i64 k, .slice (some ⟨b0, off0, none⟩) xs0.length c0] 28)).alloc (by first | (simp; done) | (simp; omega) | omega) (.cells #[.int .i64 m, .int .i64 k, .slice (some ⟨b1, off1, none⟩) xs1.length c1] 28)).alloc (by first | (simp; done) | (simp; omega) | omega) (.cells #[.int .i64 m, .int .i64 k, .slice (some ⟨b2, off2, none⟩) xs2.length c2] 28)).alloc (by first | (simp; done) | (simp; omega) | omega) (.cells #[.int .i64 0, .int .i64 0, .slice none 0 0] 28))
      have R0 := (((((h0)).alloc (hB0) (.cells #[.int .i64 m, .int .i64 k, .slice (some ⟨b0, off0, none⟩) xs0.length c0] 28)).alloc ((by first | (simp; done) | (simp; omega) | omega)) (.cells #[.int .i64 m, .int .i64 k, .slice (some ⟨b1, off1, none⟩) xs1.length c1] 28)).alloc ((by first | (simp; done) | (simp; omega) | omega)) (.cells #[.int .i64 m, .int .i64 k, .slice (some ⟨b2, off2, none⟩) xs2.length c2] 28)).alloc ((by first | (simp; done) | (simp; omega) | omega)) (.cells #[.int .i64 0, .int .i64 0, .slice none 0 0] 28)
      have R1 := (((((h1)).alloc (hB1) (.cells #[.int .i64 m, .int .i64 k, .slice (some ⟨b0, off0, none⟩) xs0.length c0] 28)).alloc ((by first | (simp; done) | (simp; omega) | omega)) (.cells #[.int .i64 m, .int .i64 k, .slice (some ⟨b1, off1, none⟩) xs1.length c1] 28)).alloc ((by first | (simp; done) | (simp; omega) | omega)) (.cells #[.int .i64 m, .int .i64 k, .slice (some ⟨b2, off2, none⟩) xs2.length c2] 28)).alloc ((by first | (simp; done) | (simp; omega) | omega)) (.cells #[.int .i64 0, .int .i64 0, .slice none 0 0] 28)
      have R2 := (((((h2)).alloc (hB2) (.cells #[.int .i64 m, .int .i64 k, .slice (some ⟨b0, off0, none⟩) xs0.length c0] 28)).alloc ((by first | (simp; done) | (simp; omega) | omega)) (.cells #[.int .i64 m, .int .i64 k, .slice (some ⟨b1, off1, none⟩) xs1.length c1] 28)).alloc ((by first | (simp; done) | (simp; omega) | omega)) (.cells #[.int .i64 m, .int .i64 k, .slice (some ⟨b2, off2, none⟩) xs2.length c2] 28)).alloc ((by first | (simp; done) | (simp; omega) | omega)) (.cells #[.int .i64 0, .int .i64 0, .slice none 0 0] 28)
      have x := ((((Blk.new w #[.int .i64 m, .int .i64 k, .slice (some ⟨b0, off0, none⟩) xs0.length c0] 28).alloc (.cells #[.int .i64 m, .int .i64 k, .slice (some ⟨b1, off1, none⟩) xs1.length c1] 28)).alloc (.cells #[.int .i64 m, .int .i64 k, .slice (some ⟨b2, off2, none⟩) xs2.length c2] 28)).alloc (.cells #[.int .i64 0, .int .i64 0, .slice none 0 0] 28)).at_ (q := w.heap.size) (by simp)
      have y := (((Blk.new (w.alloc (.cells #[.int .i64 m, .int .i64 k, .slice (some ⟨b0, off0, none⟩) xs0.length c0] 28)) #[.int .i64 m, .int .i64 k, .slice (some ⟨b1, off1, none⟩) xs1.length c1] 28).alloc (.cells #[.int .i64 m, .int .i64 k, .slice (some ⟨b2, off2, none⟩) xs2.length c2] 28)).alloc (.cells #[.int .i64 0, .int .i64 0, .slice none 0 0] 28)).at_ (q := w.heap.size + 1) (by simp)
      have z := ((Blk.new ((w.alloc (.cells #[.int .i64 m, .int .i64 k, .slice (some ⟨b0, off0, none⟩) xs0.length c0] 28)).alloc (.cells #[.int .i64 m, .int .i64 k, .slice (some ⟨b1, off1, none⟩) xs1.length c1] 28)) #[.int .i64 m, .int .i64 k, .slice (some ⟨b2, off2, none⟩) xs2.length c2] 28).alloc (.cells #[.int .i64 0, .int .i64 0, .slice none 0 0] 28)).at_ (q := w.heap.size + 1 + 1) (by simp)
      have r := (Blk.new (((w.alloc (.cells #[.int .i64 m, .int .i64 k, .slice (some ⟨b0, off0, none⟩) xs0.length c0] 28)).alloc (.cells #[.int .i64 m, .int .i64 k, .slice (some ⟨b1, off1, none⟩) xs1.length c1] 28)).alloc (.cells #[.int .i64 m, .int .i64 k, .slice (some ⟨b2, off2, none⟩) xs2.length c2] 28)) #[.int .i64 0, .int .i64 0, .slice none 0 0] 28).at_ (q := w.heap.size + 1 + 1 + 1) (by simp)
      have hsz : w.heap.size + 4 ≤ ((((w.alloc (.cells #[.int .i64 m, .int .i64 k, .slice (some ⟨b0, off0, none⟩) xs0.length c0] 28)).alloc (.cells #[.int .i64 m, .int .i64 k, .slice (some ⟨b1, off1, none⟩) xs1.length c1] 28)).alloc (.cells #[.int .i64 m, .int .i64 k, .slice (some ⟨b2, off2, none⟩) xs2.length c2] 28)).alloc (.cells #[.int .i64 0, .int .i64 0, .slice none 0 0] 28)).heap.size := by simp
      clear h0 h1 h2
      go_enter Try.func36, Try.ntmps36
      go_wp2_with fail
      obtain ⟨W0, hW0⟩ : ∃ v, ((((w.alloc (.cells #[.int .i64 m, .int .i64 k, .slice (some ⟨b0, off0, none⟩) xs0.length c0] 28)).alloc (.cells #[.int .i64 m, .int .i64 k, .slice (some ⟨b1, off1, none⟩) xs1.length c1] 28)).alloc (.cells #[.int .i64 m, .int .i64 k, .slice (some ⟨b2, off2, none⟩) xs2.length c2] 28)).alloc (.cells #[.int .i64 0, .int .i64 0, .slice none 0 0] 28)) = v := ⟨_, rfl⟩
      rw [hW0] at HB hsz R0 R1 R2 x y z r ⊢
      clear hW0
      have ex0 := x.cell 0
      have ex1 := x.cell 1
      have ex2 := x.cell 2
      have zx := x.lt
      have ey0 := y.cell 0
      have ey1 := y.cell 1
      have ey2 := y.cell 2
      have zy := y.lt
      have ez0 := z.cell 0
      have ez1 := z.cell 1
      have ez2 := z.cell 2
      have zz := z.lt
      have er0 := r.cell 0
      have er1 := r.cell 1
      have er2 := r.cell 2
      have zr := r.lt
      go_wp2_with fail
      refine (l13Size_any m k (some ⟨b0, off0, none⟩) _ c0 _ xs0 m k (some ⟨b1, off1, none⟩) _ c1 _ xs1 _ R0 (Nat.le_trans hB0 (by omega)) R1 (Nat.le_trans hB1 (by omega))).mono ?_
      rintro e w1 ⟨rfl, hb⟩
      clear ex0 ex1 ex2 zx ey0 ey1 ey2 zy ez0 ez1 ez2 zz er0 er1 er2 zr
      replace x := x.all hb
      replace y := y.all hb
      replace z := z.all hb
      replace r := r.all hb
      replace R0 := R0.all hb (Nat.le_trans (hB0) (by omega))
      replace R1 := R1.all hb (Nat.le_trans (hB1) (by omega))
      replace R2 := R2.all hb (Nat.le_trans (hB2) (by omega))
      replace HB := Lib.hid (HB.out.trans (hb.mono (by omega)))
      replace hsz := Nat.le_trans hsz hb.size
      clear hb
      rw [hs1]
      have ex0 := x.cell 0
      have ex1 := x.cell 1
      have ex2 := x.cell 2
      have zx := x.lt
      have ey0 := y.cell 0
      have ey1 := y.cell 1
      have ey2 := y.cell 2
      have zy := y.lt
      have ez0 := z.cell 0
      have ez1 := z.cell 1
      have ez2 := z.cell 2
      have zz := z.lt
      have er0 := r.cell 0
      have er1 := r.cell 1
      have er2 := r.cell 2
      have zr := r.lt
      go_wp2_with fail
      refine (l13Size_any m k (some ⟨b0, off0, none⟩) _ c0 _ xs0 m k (some ⟨b2, off2, none⟩) _ c2 _ xs2 _ R0 (Nat.le_trans hB0 (by omega)) R2 (Nat.le_trans hB2 (by omega))).mono ?_
      rintro e w2 ⟨rfl, hb⟩
      clear ex0 ex1 ex2 zx ey0 ey1 ey2 zy ez0 ez1 ez2 zz er0 er1 er2 zr
      replace x := x.all hb
      replace y := y.all hb
      replace z := z.all hb
      replace r := r.all hb
      replace R0 := R0.all hb (Nat.le_trans (hB0) (by omega))
      replace R1 := R1.all hb (Nat.le_trans (hB1) (by omega))
      replace R2 := R2.all hb (Nat.le_trans (hB2) (by omega))
      replace HB := Lib.hid (HB.out.trans (hb.mono (by omega)))
      replace hsz := Nat.le_trans hsz hb.size
      clear hb
      rw [hs2]
      have ex0 := x.cell 0
      have ex1 := x.cell 1
      have ex2 := x.cell 2
      have zx := x.lt
      have ey0 := y.cell 0
      have ey1 := y.cell 1
      have ey2 := y.cell 2
      have zy := y.lt
      have ez0 := z.cell 0
      have ez1 := z.cell 1
      have ez2 := z.cell 2
      have zz := z.lt
      have er0 := r.cell 0
      have er1 := r.cell 1
      have er2 := r.cell 2
      have zr := r.lt
      go_wp2_with fail
      refine (l2Own_any m k _ _ c0 _ xs0 _ R0 (Nat.le_trans hB0 (by omega)) (by omega)).mono ?_
      rintro e w3 ⟨A9, c9, rfl, own, hb⟩
      clear ex0 ex1 ex2 zx ey0 ey1 ey2 zy ez0 ez1 ez2 zz er0 er1 er2 zr
      replace x := x.all hb
      replace y := y.all hb
      replace z := z.all hb
      replace r := r.all hb
      replace R0 := R0.all hb (Nat.le_trans (hB0) (by omega))
      replace R1 := R1.all hb (Nat.le_trans (hB1) (by omega))
      replace R2 := R2.all hb (Nat.le_trans (hB2) (by omega))
      have O := own.mono (show w.heap.size ≤ _ by omega)
      clear own
      replace HB := Lib.hid (HB.out.trans (hb.mono (by omega)))
      replace hsz := Nat.le_trans hsz hb.size
      clear hb
      replace O := O.alloc (.cells #[.int .i64 m, .int .i64 k, .slice A9 xs0.length c9] 28)
      have hlQx := x.lt
      replace x := x.alloc (.cells #[.int .i64 m, .int .i64 k, .slice A9 xs0.length c9] 28)
      have hlQy := y.lt
      replace y := y.alloc (.cells #[.int .i64 m, .int .i64 k, .slice A9 xs0.length c9] 28)
      have hlQz := z.lt
      replace z := z.alloc (.cells #[.int .i64 m, .int .i64 k, .slice A9 xs0.length c9] 28)
      have hlQr := r.lt
      replace r := r.alloc (.cells #[.int .i64 m, .int .i64 k, .slice A9 xs0.length c9] 28)
      replace R0 := R0.alloc (Nat.le_trans (hB0) (by omega)) (.cells #[.int .i64 m, .int .i64 k, .slice A9 xs0.length c9] 28)
      replace R1 := R1.alloc (Nat.le_trans (hB1) (by omega)) (.cells #[.int .i64 m, .int .i64 k, .slice A9 xs0.length c9] 28)
      replace R2 := R2.alloc (Nat.le_trans (hB2) (by omega)) (.cells #[.int .i64 m, .int .i64 k, .slice A9 xs0.length c9] 28)
      have me := Blk.new w3 #[.int .i64 m, .int .i64 k, .slice A9 xs0.length c9] 28
      replace HB := Lib.hid (HB.out.alloc (by omega) (.cells #[.int .i64 m, .int .i64 k, .slice A9 xs0.length c9] 28))
      have hqQ : w.heap.size + 4 ≤ w3.heap.size := hsz
      replace hsz : w.heap.size + 4 ≤ (w3.alloc (.cells #[.int .i64 m, .int .i64 k, .slice A9 xs0.length c9] 28)).heap.size := by simp; omega
      have ex0 := x.cell 0
      have ex1 := x.cell 1
      have ex2 := x.cell 2
      have zx := x.lt
      have ey0 := y.cell 0
      have ey1 := y.cell 1
      have ey2 := y.cell 2
      have zy := y.lt
      have ez0 := z.cell 0
      have ez1 := z.cell 1
      have ez2 := z.cell 2
      have zz := z.lt
      have er0 := r.cell 0
      have er1 := r.cell 1
      have er2 := r.cell 2
      have zr := r.lt
      go_upto_region 4 with fail
      clear ex0 ex1 ex2 zx ey0 ey1 ey2 zy ez0 ez1 ez2 zz er0 er1 er2 zr
      obtain ⟨w4, hw_⟩ : ∃ v, w3.alloc (.cells #[.int .i64 m, .int .i64 k, .slice A9 xs0.length c9] 28) = v := ⟨_, rfl⟩
      rw [hw_] at HB hsz O x y z r R0 R1 R2 me ⊢
      obtain ⟨Q, hq_⟩ : ∃ q, w3.heap.size = q := ⟨_, rfl⟩
      rw [hq_] at me hqQ hlQx hlQy hlQz hlQr ⊢
      clear hw_ hq_
      obtain ⟨g, rfl, hg1, hg2⟩ := O.some_ h1n
      have HL0 := Lib.hid (mgL_zero xs0 xs1 xs2).symm
      have hN1 : xs1.length = xs0.length := hl1.out
      go_wp2
      go_loopw [9] (fun s9 wr => ∃ (p : Nat) (L : List Int), p ≤ xs0.length ∧ s9 = .int .i64 p ∧ Hid (L = mgL xs0 xs1 xs2 p) ∧ L.length = xs0.length ∧ Own wr w.heap.size (.slice (some ⟨g, 0, none⟩) xs0.length c9) L ∧ Blk wr Q 28 #[.int .i64 m, .int .i64 k, .slice (some ⟨g, 0, none⟩) xs0.length c9] ∧ Blk wr (w.heap.size + 1) 28 #[.int .i64 m, .int .i64 k, .slice (some ⟨b1, off1, none⟩) xs1.length c1] ∧ Blk wr (w.heap.size + 1 + 1) 28 #[.int .i64 m, .int .i64 k, .slice (some ⟨b2, off2, none⟩) xs2.length c2] ∧ Blk wr (w.heap.size + 1 + 1 + 1) 28 #[.int .i64 0, .int .i64 0, .slice none 0 0] ∧ Rd wr B1 (some ⟨b1, off1, none⟩) xs1.length c1 xs1 ∧ Rd wr B2 (some ⟨b2, off2, none⟩) xs2.length c2 xs2 ∧ w.heap.size + 4 ≤ wr.heap.size ∧ Hid (Below w.heap.size w wr)) (fun s9 _ => xs0.length - (intOf s9).toNat)
      case atStart => exact ⟨0, xs0, Nat.zero_le _, rfl, HL0, rfl, O, me, y, z, r, R1, R2, by omega, HB⟩
      case round =>
        clear O me y z r R1 R2 HB HL0 x R0
        obtain ⟨p, L, hp, rfl, HL, hLl, O, me, y, z, r, R1, R2, hzz, HB⟩ := hrel
        have m2 := me.cell 2
        by_cases hlt : p < xs0.length
        · skip
          obtain ⟨v, hv⟩ : ∃ v, xs1.getD p 0 = v := ⟨_, rfl⟩
          obtain ⟨u, hu⟩ : ∃ u, xs2.getD p 0 = u := ⟨_, rfl⟩
          have g1 := rd_knot R1 (by omega) hv
          have g2 := rd_knot R2 (by rw [hl2.out]; exact hlt) hu
          have hvf : I64 v := by rw [← hv]; exact R1.fit p
          have e2 := z.cell 2
          have d2 := y.cell 2
          have hN2 : p < xs2.length := by rw [hl2.out]; exact hlt
          have hcap := O.rd.cap
          have hc1 := R1.cap
          have hc2 := R2.cap
          have HY := Lib.hid (mgL_yes (xs := xs0) (ys := xs1) (zs := xs2) (p := p) (v := v) hlt hv)
          have HN := Lib.hid (mgL_no (xs := xs0) (ys := xs1) (zs := xs2) (p := p) hlt)
          go_upto_region 7 with fail
          go_quiet (fail)
          clear e2 m2 d2 g1 g2
          replace O := O.drewN nq
          replace me := me.all (low_drewN wr nq)
          replace y := y.all (low_drewN wr nq)
          replace z := z.all (low_drewN wr nq)
          replace r := r.all (low_drewN wr nq)
          replace R1 := R1.drewN nq
          replace R2 := R2.drewN nq
          replace HB := Lib.hid (belowN HB.out nq)
          replace hzz : w.heap.size + 4 ≤ (wr.drewN nq).heap.size := hzz
          generalize wr.drewN nq = wq at *
          have g1 := rd_knot R1 (by omega) hv
          have m2 := me.cell 2
          have d2 := y.cell 2
          cases ht : v == u with
          | true =>
            have hNL := Lib.hid (HY.out (by rw [hu]; exact (eq_of_beq ht).symm))
            rw [← HL.out] at hNL
            obtain ⟨hf, O3, G3⟩ := own_put O p v hvf
            have LD := low_drewN (wq.setCell ⟨g, p, none⟩ (.int .i64 v)) 1
            have me3 := (me.mark G3 (row_ne O.1 me (by decide))).all LD
            have y3 := (y.mark G3 (row_ne O.1 y (by decide))).all LD
            have z3 := (z.mark G3 (row_ne O.1 z (by decide))).all LD
            have r3 := (r.mark G3 (row_ne O.1 r (by decide))).all LD
            have R13 := (R1.mark G3 (fun q hq => Nat.le_trans hB1 (O.bd q hq).1) (Nat.le_trans hB1 (by omega))).drewN 1
            have R23 := (R2.mark G3 (fun q hq => Nat.le_trans hB2 (O.bd q hq).1) (Nat.le_trans hB2 (by omega))).drewN 1
            have HB3 := Lib.hid (belowN (HB.out.grown G3 (by omega) (fun q hq => (O.bd q hq).1)) 1)
            have hz3 : w.heap.size + 4 ≤ ((wq.setCell ⟨g, p, none⟩ (.int .i64 v)).drewN 1).heap.size := Nat.le_trans hzz G3.size
            replace O3 := O3.drewN 1
            have hxy := O.bd g rfl
            obtain ⟨ov, hov⟩ : ∃ y, wq.cell? ⟨g, p, none⟩ = some y := ⟨_, own_at O (by rw [hLl]; exact hlt) rfl⟩
            clear hv hu O me y z r R1 R2 HB G3 hzz HN HY LD
            go_upto_region 8 with fail
            go_region
            all_goals
              go_wp2
              go_roundw
              case rel => exact ⟨p + 1, _, hlt, by go_num, hNL, by rw [List.length_set]; exact hLl, O3, me3, y3, z3, r3, R13, R23, hz3, HB3⟩
              case measure => simp [intOf]; omega
          | false =>
            have hNL := Lib.hid (HL.out.trans (HN.out (by rw [hv, hu]; exact fun e => by rw [e] at ht; simp at ht)))
            clear hv hu HN HY HL
            go_wp2
            go_roundw
            case rel => exact ⟨p + 1, L, hlt, by go_num, hNL, hLl, O, me, y, z, r, R1, R2, hzz, HB⟩
            case measure => simp [intOf]; omega
        · have HF := Lib.hid (show mgX m k xs0 m k xs1 m k xs2 = L by rw [HX.out, HL.out, show p = xs0.length by omega])
          have F := fin3 (p := w.heap.size + 1 + 1 + 1) (a := .int .i64 m) (b := .int .i64 k) (c := .slice (some ⟨g, 0, none⟩) xs0.length c9) O (row_ne' O.1 r (by decide)) HB.out (by omega)
          have m0 := me.cell 0
          have m1 := me.cell 1
          have r0 := r.cell 0
          have r1 := r.cell 1
          have r2 := r.cell 2
          have f0 := r.frozen 0
          have f1 := r.frozen 1
          have f2 := r.frozen 2
          have hrl := r.lt
          go_wp2
          rw [hok2.out, HF.out]
          exact bodyPost_ret (v := .tuple #[chartV m k (.slice (some ⟨g, 0, none⟩) xs0.length c9), .bool true]) (by simp [results, Try.results36, go_sem, r0, r1, r2]) rfl ⟨some ⟨g, 0, none⟩, c9, by rw [hLl]; rfl, by rw [hLl]; exact F.1, F.2⟩
end Go.Proofs.Ytiglbidfjcjhgaa
