/- The walk of the program's SwappedColors. No condition. -/
import Derived.Test.YtgkflgfjbaobcaaSwMath
import Derived.Test.YtgkflgfjbaobcaaAppF
import Derived.Test.YtgkflgfjbaobcaaPairHelp
import Derived.Deep.MidRow
namespace Go.Proofs.Ytgkflgfjbaobcaa
open Go.RowKit

theorem lt6 {s : Nat} (h : s < 6) : s = 0 ∨ s = 1 ∨ s = 2 ∨ s = 3 ∨ s = 4 ∨ s = 5 := by omega
set_option maxRecDepth 100000 in
theorem index_row {M : Nat → Bool} {a : Nat} (h : a < 6) (w : World) :
    (Instr.index 56 (.agg #[.bool (M 0), .bool (M 1), .bool (M 2), .bool (M 3), .bool (M 4), .bool (M 5), .bool (M 6), .bool (M 7), .bool (M 8), .bool (M 9), .bool (M 10), .bool (M 11), .bool (M 12), .bool (M 13), .bool (M 14), .bool (M 15), .bool (M 16), .bool (M 17), .bool (M 18), .bool (M 19), .bool (M 20), .bool (M 21), .bool (M 22), .bool (M 23), .bool (M 24), .bool (M 25), .bool (M 26), .bool (M 27), .bool (M 28), .bool (M 29), .bool (M 30), .bool (M 31), .bool (M 32), .bool (M 33), .bool (M 34), .bool (M 35)]) (.int .i64 (a : Int))).run Try.prog w = .ok (.agg #[.bool (M (a * 6)), .bool (M (a * 6 + 1)), .bool (M (a * 6 + 2)), .bool (M (a * 6 + 3)), .bool (M (a * 6 + 4)), .bool (M (a * 6 + 5))]) w := by
  rcases lt6 h with rfl | rfl | rfl | rfl | rfl | rfl <;> rfl
set_option maxRecDepth 100000 in
theorem index_bool {M : Nat → Bool} {a b : Nat} (h : b < 6) (w : World) :
    (Instr.index 55 (.agg #[.bool (M (a * 6)), .bool (M (a * 6 + 1)), .bool (M (a * 6 + 2)), .bool (M (a * 6 + 3)), .bool (M (a * 6 + 4)), .bool (M (a * 6 + 5))]) (.int .i64 (b : Int))).run Try.prog w = .ok (.bool (M (a * 6 + b))) w := by
  rcases lt6 h with rfl | rfl | rfl | rfl | rfl | rfl <;> rfl
theorem zeros_mt (xs ys : List Int) : (#[.bool false, .bool false, .bool false, .bool false, .bool false, .bool false, .bool false, .bool false, .bool false, .bool false, .bool false, .bool false, .bool false, .bool false, .bool false, .bool false, .bool false, .bool false, .bool false, .bool false, .bool false, .bool false, .bool false, .bool false, .bool false, .bool false, .bool false, .bool false, .bool false, .bool false, .bool false, .bool false, .bool false, .bool false, .bool false, .bool false] : Array Value) = mtC (metTo xs ys 0) := by
  have : metTo xs ys 0 = fun _ => false := by funext q; exact metTo_zero xs ys q
  rw [this]; rfl
set_option maxRecDepth 100000 in
set_option maxHeartbeats 8000000 in
theorem implSwappedColors_any (V0 H0 : Int) (A0 : Option Addr) (n0 c0 B0 : Nat) (xs0 : List Int) (V1 H1 : Int) (A1 : Option Addr) (n1 c1 B1 : Nat) (xs1 : List Int) (w : World) (h0 : Rd w B0 A0 n0 c0 xs0) (hB0 : B0 ≤ w.heap.size) (h1 : Rd w B1 A1 n1 c1 xs1) (hB1 : B1 ≤ w.heap.size) :
    Calls Try.prog 16 #[chartV V0 H0 (.slice A0 n0 c0), chartV V1 H1 (.slice A1 n1 c1)] w (OutF pairF w (swX V0 H0 xs0 V1 H1 xs1) (sizeB V0 H0 xs0 V1 H1 xs1)) := by
  obtain rfl := h0.len
  obtain rfl := h1.len
  cases hok : sizeB V0 H0 xs0 V1 H1 xs1 with
  | false =>
    have HOK := Lib.hid ((two_lit A0 A1 c0 c1).trans hok)
    have HX := Lib.hid (swX_no hok)
    have HB := Lib.hid ((((Below.refl w.heap.size w).alloc (by first | (simp; done) | (simp; omega) | omega) (.cells #[.int .i64 V0, .int .i64 H0, .slice A0 xs0.length c0] 26)).alloc (by first | (simp; done) | (simp; omega) | omega) (.cells #[.int .i64 V1, .int .i64 H1, .slice A1 xs1.length c1] 26)).alloc (by first | (simp; done) | (simp; omega) | omega) (.cells #[.int .i64 V0, .int .i64 H0, .slice A0 xs0.length c0, .int .i64 V1, .int .i64 H1, .slice A1 xs1.length c1] 26))
    have R0 := ((((h0)).alloc (hB0) (.cells #[.int .i64 V0, .int .i64 H0, .slice A0 xs0.length c0] 26)).alloc ((by first | (simp; done) | (simp; omega) | omega)) (.cells #[.int .i64 V1, .int .i64 H1, .slice A1 xs1.length c1] 26)).alloc ((by first | (simp; done) | (simp; omega) | omega)) (.cells #[.int .i64 V0, .int .i64 H0, .slice A0 xs0.length c0, .int .i64 V1, .int .i64 H1, .slice A1 xs1.length c1] 26)
    have R1 := ((((h1)).alloc (hB1) (.cells #[.int .i64 V0, .int .i64 H0, .slice A0 xs0.length c0] 26)).alloc ((by first | (simp; done) | (simp; omega) | omega)) (.cells #[.int .i64 V1, .int .i64 H1, .slice A1 xs1.length c1] 26)).alloc ((by first | (simp; done) | (simp; omega) | omega)) (.cells #[.int .i64 V0, .int .i64 H0, .slice A0 xs0.length c0, .int .i64 V1, .int .i64 H1, .slice A1 xs1.length c1] 26)
    have x := (((Blk.new w #[.int .i64 V0, .int .i64 H0, .slice A0 xs0.length c0] 26).alloc (.cells #[.int .i64 V1, .int .i64 H1, .slice A1 xs1.length c1] 26)).alloc (.cells #[.int .i64 V0, .int .i64 H0, .slice A0 xs0.length c0, .int .i64 V1, .int .i64 H1, .slice A1 xs1.length c1] 26)).at_ (q := w.heap.size) (by simp)
    have y := ((Blk.new (w.alloc (.cells #[.int .i64 V0, .int .i64 H0, .slice A0 xs0.length c0] 26)) #[.int .i64 V1, .int .i64 H1, .slice A1 xs1.length c1] 26).alloc (.cells #[.int .i64 V0, .int .i64 H0, .slice A0 xs0.length c0, .int .i64 V1, .int .i64 H1, .slice A1 xs1.length c1] 26)).at_ (q := w.heap.size + 1) (by simp)
    have lit := (Blk.new ((w.alloc (.cells #[.int .i64 V0, .int .i64 H0, .slice A0 xs0.length c0] 26)).alloc (.cells #[.int .i64 V1, .int .i64 H1, .slice A1 xs1.length c1] 26)) #[.int .i64 V0, .int .i64 H0, .slice A0 xs0.length c0, .int .i64 V1, .int .i64 H1, .slice A1 xs1.length c1] 26).at_ (q := w.heap.size + 1 + 1) (by simp)
    have hsz : w.heap.size + 3 ≤ (((w.alloc (.cells #[.int .i64 V0, .int .i64 H0, .slice A0 xs0.length c0] 26)).alloc (.cells #[.int .i64 V1, .int .i64 H1, .slice A1 xs1.length c1] 26)).alloc (.cells #[.int .i64 V0, .int .i64 H0, .slice A0 xs0.length c0, .int .i64 V1, .int .i64 H1, .slice A1 xs1.length c1] 26)).heap.size := by simp
    clear h0 h1
    go_enter Try.func16, Try.ntmps16
    go_wp2_with fail
    obtain ⟨W0, hW0⟩ : ∃ v, (((w.alloc (.cells #[.int .i64 V0, .int .i64 H0, .slice A0 xs0.length c0] 26)).alloc (.cells #[.int .i64 V1, .int .i64 H1, .slice A1 xs1.length c1] 26)).alloc (.cells #[.int .i64 V0, .int .i64 H0, .slice A0 xs0.length c0, .int .i64 V1, .int .i64 H1, .slice A1 xs1.length c1] 26)) = v := ⟨_, rfl⟩
    rw [hW0] at HB hsz R0 R1 x y lit ⊢
    clear hW0
    have HRD : Hid (∀ x ∈ [(⟨V0, H0, A0, c0, xs0⟩ : ChR), (⟨V1, H1, A1, c1, xs1⟩ : ChR)], Rd W0 (w.heap.size + 1 + 1) x.A x.xs.length x.c x.xs) := Lib.hid (fun x hx => by
      simp only [List.mem_cons, List.not_mem_nil, or_false] at hx
      rcases hx with rfl | rfl
      · exact R0.more (by omega)
      · exact R1.more (by omega))
    have ex0 := x.cell 0
    have ex1 := x.cell 1
    have ex2 := x.cell 2
    have zx := x.lt
    have ey0 := y.cell 0
    have ey1 := y.cell 1
    have ey2 := y.cell 2
    have zy := y.lt
    have elit0 := lit.cell 0
    have elit1 := lit.cell 1
    have elit2 := lit.cell 2
    have elit3 := lit.cell 3
    have elit4 := lit.cell 4
    have elit5 := lit.cell 5
    have zlit := lit.lt
    go_wp2_with fail
    refine (haveSameSize_any [(⟨V0, H0, A0, c0, xs0⟩ : ChR), (⟨V1, H1, A1, c1, xs1⟩ : ChR)] (⟨V0, H0, A0, c0, xs0⟩ : ChR) (w.heap.size + 1 + 1) 2 _ (Lib.hid rfl) (by decide) rfl lit HRD).mono ?_
    rintro e w1 ⟨rfl, hb⟩
    clear ex0 ex1 ex2 zx ey0 ey1 ey2 zy elit0 elit1 elit2 elit3 elit4 elit5 zlit
    replace x := x.all hb
    replace y := y.all hb
    replace lit := lit.all hb
    replace R0 := R0.all hb (Nat.le_trans (hB0) (by omega))
    replace R1 := R1.all hb (Nat.le_trans (hB1) (by omega))
    replace HB := Lib.hid (HB.out.trans (hb.mono (by omega)))
    replace hsz := Nat.le_trans hsz hb.size
    clear hb
    rw [show ([(⟨V0, H0, A0, c0, xs0⟩ : ChR), (⟨V1, H1, A1, c1, xs1⟩ : ChR)]).all (fitsB (⟨V0, H0, A0, c0, xs0⟩ : ChR)) = false from HOK.out]
    clear HRD
    go_wp2
    go_ret2
    rw [HX.out]
    exact ⟨none, 0, rfl, OwnF.nil _ _ _, HB.out⟩
  | true =>
    have HOK := Lib.hid ((two_lit A0 A1 c0 c1).trans hok)
    obtain ⟨m, k, rfl, rfl, rfl, rfl, hl1, _, _, _, _, _, h64, h1n, hx0, hx1⟩ := size_open hok
    have HX := Lib.hid (swX_yes hok)
    clear hok
    have HC0 := Lib.hid (fun p hp => col_nat (p := p) hx0 hp)
    have HC1 := Lib.hid (fun p hp => col_nat (p := p) hx1 hp)
    clear hx0 hx1
    obtain ⟨b0, off0, rfl, _, _⟩ := h0.cells h1n
    obtain ⟨b1, off1, rfl, _, _⟩ := h1.cells (by rw [hl1.out]; exact h1n)
    have HB := Lib.hid ((((Below.refl w.heap.size w).alloc (by first | (simp; done) | (simp; omega) | omega) (.cells #[.int .i64 m, .int .i64 k, .slice (some ⟨b0, off0, none⟩) xs0.length c0] 26)).alloc (by first | (simp; done) | (simp; omega) | omega) (.cells #[.int .i64 m, .int .i64 k, .slice (some ⟨b1, off1, none⟩) xs1.length c1] 26)).alloc (by first | (simp; done) | (simp; omega) | omega) (.cells #[.int .i64 m, .int .i64 k, .slice (some ⟨b0, off0, none⟩) xs0.length c0, .int .i64 m, .int .i64 k, .slice (some ⟨b1, off1, none⟩) xs1.length c1] 26))
    have R0 := ((((h0)).alloc (hB0) (.cells #[.int .i64 m, .int .i64 k, .slice (some ⟨b0, off0, none⟩) xs0.length c0] 26)).alloc ((by first | (simp; done) | (simp; omega) | omega)) (.cells #[.int .i64 m, .int .i64 k, .slice (some ⟨b1, off1, none⟩) xs1.length c1] 26)).alloc ((by first | (simp; done) | (simp; omega) | omega)) (.cells #[.int .i64 m, .int .i64 k, .slice (some ⟨b0, off0, none⟩) xs0.length c0, .int .i64 m, .int .i64 k, .slice (some ⟨b1, off1, none⟩) xs1.length c1] 26)
    have R1 := ((((h1)).alloc (hB1) (.cells #[.int .i64 m, .int .i64 k, .slice (some ⟨b0, off0, none⟩) xs0.length c0] 26)).alloc ((by first | (simp; done) | (simp; omega) | omega)) (.cells #[.int .i64 m, .int .i64 k, .slice (some ⟨b1, off1, none⟩) xs1.length c1] 26)).alloc ((by first | (simp; done) | (simp; omega) | omega)) (.cells #[.int .i64 m, .int .i64 k, .slice (some ⟨b0, off0, none⟩) xs0.length c0, .int .i64 m, .int .i64 k, .slice (some ⟨b1, off1, none⟩) xs1.length c1] 26)
    have x := (((Blk.new w #[.int .i64 m, .int .i64 k, .slice (some ⟨b0, off0, none⟩) xs0.length c0] 26).alloc (.cells #[.int .i64 m, .int .i64 k, .slice (some ⟨b1, off1, none⟩) xs1.length c1] 26)).alloc (.cells #[.int .i64 m, .int .i64 k, .slice (some ⟨b0, off0, none⟩) xs0.length c0, .int .i64 m, .int .i64 k, .slice (some ⟨b1, off1, none⟩) xs1.length c1] 26)).at_ (q := w.heap.size) (by simp)
    have y := ((Blk.new (w.alloc (.cells #[.int .i64 m, .int .i64 k, .slice (some ⟨b0, off0, none⟩) xs0.length c0] 26)) #[.int .i64 m, .int .i64 k, .slice (some ⟨b1, off1, none⟩) xs1.length c1] 26).alloc (.cells #[.int .i64 m, .int .i64 k, .slice (some ⟨b0, off0, none⟩) xs0.length c0, .int .i64 m, .int .i64 k, .slice (some ⟨b1, off1, none⟩) xs1.length c1] 26)).at_ (q := w.heap.size + 1) (by simp)
    have lit := (Blk.new ((w.alloc (.cells #[.int .i64 m, .int .i64 k, .slice (some ⟨b0, off0, none⟩) xs0.length c0] 26)).alloc (.cells #[.int .i64 m, .int .i64 k, .slice (some ⟨b1, off1, none⟩) xs1.length c1] 26)) #[.int .i64 m, .int .i64 k, .slice (some ⟨b0, off0, none⟩) xs0.length c0, .int .i64 m, .int .i64 k, .slice (some ⟨b1, off1, none⟩) xs1.length c1] 26).at_ (q := w.heap.size + 1 + 1) (by simp)
    have hsz : w.heap.size + 3 ≤ (((w.alloc (.cells #[.int .i64 m, .int .i64 k, .slice (some ⟨b0, off0, none⟩) xs0.length c0] 26)).alloc (.cells #[.int .i64 m, .int .i64 k, .slice (some ⟨b1, off1, none⟩) xs1.length c1] 26)).alloc (.cells #[.int .i64 m, .int .i64 k, .slice (some ⟨b0, off0, none⟩) xs0.length c0, .int .i64 m, .int .i64 k, .slice (some ⟨b1, off1, none⟩) xs1.length c1] 26)).heap.size := by simp
    clear h0 h1
    go_enter Try.func16, Try.ntmps16
    go_wp2_with fail
    obtain ⟨W0, hW0⟩ : ∃ v, (((w.alloc (.cells #[.int .i64 m, .int .i64 k, .slice (some ⟨b0, off0, none⟩) xs0.length c0] 26)).alloc (.cells #[.int .i64 m, .int .i64 k, .slice (some ⟨b1, off1, none⟩) xs1.length c1] 26)).alloc (.cells #[.int .i64 m, .int .i64 k, .slice (some ⟨b0, off0, none⟩) xs0.length c0, .int .i64 m, .int .i64 k, .slice (some ⟨b1, off1, none⟩) xs1.length c1] 26)) = v := ⟨_, rfl⟩
    rw [hW0] at HB hsz R0 R1 x y lit ⊢
    clear hW0
    have HRD : Hid (∀ x ∈ [(⟨m, k, (some ⟨b0, off0, none⟩), c0, xs0⟩ : ChR), (⟨m, k, (some ⟨b1, off1, none⟩), c1, xs1⟩ : ChR)], Rd W0 (w.heap.size + 1 + 1) x.A x.xs.length x.c x.xs) := Lib.hid (fun x hx => by
      simp only [List.mem_cons, List.not_mem_nil, or_false] at hx
      rcases hx with rfl | rfl
      · exact R0.more (by omega)
      · exact R1.more (by omega))
    have ex0 := x.cell 0
    have ex1 := x.cell 1
    have ex2 := x.cell 2
    have zx := x.lt
    have ey0 := y.cell 0
    have ey1 := y.cell 1
    have ey2 := y.cell 2
    have zy := y.lt
    have elit0 := lit.cell 0
    have elit1 := lit.cell 1
    have elit2 := lit.cell 2
    have elit3 := lit.cell 3
    have elit4 := lit.cell 4
    have elit5 := lit.cell 5
    have zlit := lit.lt
    go_wp2_with fail
    refine (haveSameSize_any [(⟨m, k, (some ⟨b0, off0, none⟩), c0, xs0⟩ : ChR), (⟨m, k, (some ⟨b1, off1, none⟩), c1, xs1⟩ : ChR)] (⟨m, k, (some ⟨b0, off0, none⟩), c0, xs0⟩ : ChR) (w.heap.size + 1 + 1) 2 _ (Lib.hid rfl) (by decide) rfl lit HRD).mono ?_
    rintro e w1 ⟨rfl, hb⟩
    clear ex0 ex1 ex2 zx ey0 ey1 ey2 zy elit0 elit1 elit2 elit3 elit4 elit5 zlit
    replace x := x.all hb
    replace y := y.all hb
    replace lit := lit.all hb
    replace R0 := R0.all hb (Nat.le_trans (hB0) (by omega))
    replace R1 := R1.all hb (Nat.le_trans (hB1) (by omega))
    replace HB := Lib.hid (HB.out.trans (hb.mono (by omega)))
    replace hsz := Nat.le_trans hsz hb.size
    clear hb
    rw [show ([(⟨m, k, (some ⟨b0, off0, none⟩), c0, xs0⟩ : ChR), (⟨m, k, (some ⟨b1, off1, none⟩), c1, xs1⟩ : ChR)]).all (fitsB (⟨m, k, (some ⟨b0, off0, none⟩), c0, xs0⟩ : ChR)) = true from HOK.out]
    clear HRD
    have mt := Blk.new w1 #[.bool false, .bool false, .bool false, .bool false, .bool false, .bool false, .bool false, .bool false, .bool false, .bool false, .bool false, .bool false, .bool false, .bool false, .bool false, .bool false, .bool false, .bool false, .bool false, .bool false, .bool false, .bool false, .bool false, .bool false, .bool false, .bool false, .bool false, .bool false, .bool false, .bool false, .bool false, .bool false, .bool false, .bool false, .bool false, .bool false] 56
    have x2 := x.alloc (.cells #[.bool false, .bool false, .bool false, .bool false, .bool false, .bool false, .bool false, .bool false, .bool false, .bool false, .bool false, .bool false, .bool false, .bool false, .bool false, .bool false, .bool false, .bool false, .bool false, .bool false, .bool false, .bool false, .bool false, .bool false, .bool false, .bool false, .bool false, .bool false, .bool false, .bool false, .bool false, .bool false, .bool false, .bool false, .bool false, .bool false] 56)
    have y2 := y.alloc (.cells #[.bool false, .bool false, .bool false, .bool false, .bool false, .bool false, .bool false, .bool false, .bool false, .bool false, .bool false, .bool false, .bool false, .bool false, .bool false, .bool false, .bool false, .bool false, .bool false, .bool false, .bool false, .bool false, .bool false, .bool false, .bool false, .bool false, .bool false, .bool false, .bool false, .bool false, .bool false, .bool false, .bool false, .bool false, .bool false, .bool false] 56)
    have R02 := R0.alloc (by omega) (.cells #[.bool false, .bool false, .bool false, .bool false, .bool false, .bool false, .bool false, .bool false, .bool false, .bool false, .bool false, .bool false, .bool false, .bool false, .bool false, .bool false, .bool false, .bool false, .bool false, .bool false, .bool false, .bool false, .bool false, .bool false, .bool false, .bool false, .bool false, .bool false, .bool false, .bool false, .bool false, .bool false, .bool false, .bool false, .bool false, .bool false] 56)
    have R12 := R1.alloc (by omega) (.cells #[.bool false, .bool false, .bool false, .bool false, .bool false, .bool false, .bool false, .bool false, .bool false, .bool false, .bool false, .bool false, .bool false, .bool false, .bool false, .bool false, .bool false, .bool false, .bool false, .bool false, .bool false, .bool false, .bool false, .bool false, .bool false, .bool false, .bool false, .bool false, .bool false, .bool false, .bool false, .bool false, .bool false, .bool false, .bool false, .bool false] 56)
    have HB2 := Lib.hid (HB.out.alloc (by omega) (.cells #[.bool false, .bool false, .bool false, .bool false, .bool false, .bool false, .bool false, .bool false, .bool false, .bool false, .bool false, .bool false, .bool false, .bool false, .bool false, .bool false, .bool false, .bool false, .bool false, .bool false, .bool false, .bool false, .bool false, .bool false, .bool false, .bool false, .bool false, .bool false, .bool false, .bool false, .bool false, .bool false, .bool false, .bool false, .bool false, .bool false] 56))
    have e2 := x.cell 2
    go_upto_region 4 with fail
    clear x y R0 R1 lit HB e2
    generalize w1.alloc (.cells #[.bool false, .bool false, .bool false, .bool false, .bool false, .bool false, .bool false, .bool false, .bool false, .bool false, .bool false, .bool false, .bool false, .bool false, .bool false, .bool false, .bool false, .bool false, .bool false, .bool false, .bool false, .bool false, .bool false, .bool false, .bool false, .bool false, .bool false, .bool false, .bool false, .bool false, .bool false, .bool false, .bool false, .bool false, .bool false, .bool false] 56) = W2 at *
    obtain ⟨P, hP⟩ : ∃ P, w1.heap.size = P := ⟨_, rfl⟩
    rw [hP] at mt hsz ⊢
    rw [zeros_mt xs0 xs1] at mt
    clear hP
    have e2 := x2.cell 2
    go_wp2
    clear e2
    go_loopw [22] (fun s22 wr => ∃ (p : Nat), p ≤ xs0.length ∧ s22 = .int .i64 p ∧ Blk wr P 56 (mtC (metTo xs0 xs1 p)) ∧ Blk wr (w.heap.size + 1) 26 #[.int .i64 m, .int .i64 k, .slice (some ⟨b1, off1, none⟩) xs1.length c1] ∧ Rd wr B0 (some ⟨b0, off0, none⟩) xs0.length c0 xs0 ∧ Rd wr B1 (some ⟨b1, off1, none⟩) xs1.length c1 xs1 ∧ Hid (Below w.heap.size w wr)) (fun s22 _ => xs0.length - (intOf s22).toNat)
    case atStart => exact ⟨0, Nat.zero_le _, rfl, mt, y2, R02, R12, HB2⟩
    case round =>
      clear mt x2 y2 R02 R12 HB2
      obtain ⟨p, hp, rfl, mt, y, R0, R1, HB⟩ := hrel
      by_cases hlt : p < xs0.length
      · skip
        obtain ⟨v, hv6, hv⟩ := HC0.out p hlt
        have hlt1 : p < xs1.length := by rw [hl1.out]; exact hlt
        obtain ⟨u, hu6, hu⟩ := HC1.out p hlt1
        have g1 := rd_knot R0 hlt hv.out
        have g2 := rd_knot R1 hlt1 hu.out
        have e2 := y.cell 2
        have hc0 := R0.cap
        have hc1 := R1.cap
        have hq : v * 6 + u < 36 := by omega
        have mc := (mt.cell (v * 6 + u)).trans (mtC_get _ hq)
        have mf := mt.frozen (v * 6 + u)
        have HS := Lib.hid ((mtC_set (metTo xs0 xs1 p) (v * 6 + u)).trans (congrArg mtC (metTo_nat hv.out hu.out hu6)))
        have hPz := mt.lt
        have hbp : w.heap.size + 3 ≤ P := hsz
        have mt3 := (mt.set_ (v * 6 + u) (.bool true)).all (low_drewN _ 1)
        rw [HS.out] at mt3
        have y3 := (y.far (a := ⟨P, v * 6 + u, none⟩) (by show w.heap.size + 1 ≠ P; omega) (.bool true)).all (low_drewN _ 1)
        have GR := grown_setCell wr ⟨P, v * 6 + u, none⟩ (.bool true)
        have R03 := (R0.mark GR (fun q hq => by cases hq; show B0 ≤ P; omega) (by omega)).drewN 1
        have R13 := (R1.mark GR (fun q hq => by cases hq; show B1 ≤ P; omega) (by omega)).drewN 1
        have HB3 := Lib.hid (belowN (HB.out.setCell (p := ⟨P, v * 6 + u, none⟩) (by show w.heap.size ≤ P; omega) (.bool true)) 1)
        have hv6i : (v : Int) < 6 := by omega
        have hu6i : (u : Int) < 6 := by omega
        clear mt y R0 R1 HB GR HS hv hu hbp
        go_upto_region 7 with fail
        go_region
        all_goals
          go_wp2
          go_roundw
          case rel => exact ⟨p + 1, hlt, by go_num, mt3, y3, R03, R13, HB3⟩
          case measure => simp [intOf]; omega
      · skip
        obtain rfl : p = xs0.length := by omega
        have HSW := Lib.hid HX.out
        obtain ⟨M, hM⟩ : ∃ M, metTo xs0 xs1 xs0.length = M := ⟨_, rfl⟩
        rw [hM] at mt HSW
        clear hM HX
        have hPz := mt.lt
        have hwr : w.heap.size ≤ wr.heap.size := HB.out.size
        have HI : Hid (∀ a : Nat, a < 6 → ∀ w9, (Instr.index 56 (.agg ((List.range 36).map fun q => Value.bool (M q)).toArray) (.int .i64 (a : Int))).run Try.prog w9 = .ok (.agg #[.bool (M (a * 6)), .bool (M (a * 6 + 1)), .bool (M (a * 6 + 2)), .bool (M (a * 6 + 3)), .bool (M (a * 6 + 4)), .bool (M (a * 6 + 5))]) w9) := Lib.hid (fun a ha w9 => index_row ha w9)
        have hrg : wr.rangeAt P 0 ((List.range 36).map fun q => Value.bool (M q)) := fun j v hj => by rw [Nat.zero_add, mt.cell]; rw [mtC, List.getElem?_toArray]; exact hj
        have hin : (Try.prog.info? 56).map (·.size) = some ((List.range 36).map fun q => Value.bool (M q)).length := by rw [List.length_map, List.length_range]; kernel_rfl
        obtain ⟨cs, hcs⟩ : ∃ cs : List Value, ((List.range 36).map fun q => Value.bool (M q)) = cs := ⟨_, rfl⟩
        rw [hcs] at HI hrg hin
        clear hcs
        go_upto_region 11 with (refine wpList_load_mid rfl 56 (.tmp 6) rfl P 0 rfl cs _ hrg Try.underlying56 rfl hin ?_)
        clear hrg hin
        go_wp2
        go_loopw [9, 37] (fun s9 s37 wr => ∃ (a : Nat) (A : Option Addr) (c9 : Nat) (K : List PairR), a ≤ 6 ∧ s37 = .int .i64 a ∧ s9 = .slice A K.length c9 ∧ Hid (K = swTo M (a * 6)) ∧ OwnF pairF wr w.heap.size (.slice A K.length c9) K ∧ w.heap.size ≤ wr.heap.size ∧ Hid (Below w.heap.size w wr)) (fun _ s37 _ => 6 - (intOf s37).toNat)
        case atStart => exact ⟨0, none, 0, [], Nat.zero_le _, rfl, rfl, Lib.hid (by rw [Nat.zero_mul]; exact (swTo_zero M).symm), OwnF.nil _ _ _, hwr, HB⟩
        case round =>
          clear mt y R0 R1 HB hwr
          obtain ⟨a, A, c9, K, ha, rfl, rfl, HK, ho, hzw, HB⟩ := hrel
          by_cases hla : a < 6
          · skip
            have hai : (a : Int) < 6 := by omega
            have z0 := Blk.new wr #[.bool (M (a * 6)), .bool (M (a * 6 + 1)), .bool (M (a * 6 + 2)), .bool (M (a * 6 + 3)), .bool (M (a * 6 + 4)), .bool (M (a * 6 + 5))] 55
            have o2 := ho.alloc (.cells #[.bool (M (a * 6)), .bool (M (a * 6 + 1)), .bool (M (a * 6 + 2)), .bool (M (a * 6 + 3)), .bool (M (a * 6 + 4)), .bool (M (a * 6 + 5))] 55)
            have HB2 := Lib.hid (HB.out.alloc hzw (.cells #[.bool (M (a * 6)), .bool (M (a * 6 + 1)), .bool (M (a * 6 + 2)), .bool (M (a * 6 + 3)), .bool (M (a * 6 + 4)), .bool (M (a * 6 + 5))] 55))
            have hz2 : w.heap.size ≤ (wr.alloc (.cells #[.bool (M (a * 6)), .bool (M (a * 6 + 1)), .bool (M (a * 6 + 2)), .bool (M (a * 6 + 3)), .bool (M (a * 6 + 4)), .bool (M (a * 6 + 5))] 55)).heap.size := by rw [World.size_alloc]; omega
            go_wp2
            rw [HI.out a hla]
            go_wp2
            generalize wr.alloc (.cells #[.bool (M (a * 6)), .bool (M (a * 6 + 1)), .bool (M (a * 6 + 2)), .bool (M (a * 6 + 3)), .bool (M (a * 6 + 4)), .bool (M (a * 6 + 5))] 55) = W3 at *
            clear ho HB hzw z0
            go_loopw [9, 42] (fun s9 s42 wr => ∃ (b : Nat) (A : Option Addr) (c9 : Nat) (K : List PairR), b ≤ 6 ∧ s42 = .int .i64 b ∧ s9 = .slice A K.length c9 ∧ Hid (K = swTo M (a * 6 + b)) ∧ OwnF pairF wr w.heap.size (.slice A K.length c9) K ∧ w.heap.size ≤ wr.heap.size ∧ Hid (Below w.heap.size w wr)) (fun _ s42 _ => 6 - (intOf s42).toNat)
            case atStart => exact ⟨0, A, c9, K, Nat.zero_le _, rfl, rfl, HK, o2, hz2, HB2⟩
            case round =>
              clear HK o2 hz2 HB2
              obtain ⟨b, A, c9, K, hb, rfl, rfl, HK, ho, hzw, HB⟩ := hrel
              by_cases hlb : b < 6
              · skip
                have hbi : (b : Int) < 6 := by omega
                obtain ⟨hd1, hd2⟩ := div6 (a := a) hlb
                have HY := Lib.hid (fun h1 h2 => swTo_yes (M := M) hd1 hd2 h1 h2)
                have HN := Lib.hid (fun h => swTo_no (M := M) hd1 hd2 h)
                clear hd1 hd2
                have hK36 := Lib.hid (show K.length ≤ 36 by rw [HK.out]; exact Nat.le_trans (swTo_len M _) (by omega))
                go_upto_region 15 with fail
                go_wp2
                rw [index_bool hlb]
                cases hM : M (a * 6 + b) with
                | false =>
                  have HNN := Lib.hid (show K = swTo M (a * 6 + (b + 1)) by rw [← Nat.add_assoc, HN.out (.inl hM)]; exact HK.out)
                  clear HK HY HN
                  go_wp2
                  go_roundw
                  case rel => exact ⟨b + 1, A, c9, K, hlb, by go_num, rfl, HNN, ho, hzw, HB⟩
                  case measure => simp [intOf]; omega
                | true =>
                  by_cases hab : a = b
                  · have HNN := Lib.hid (show K = swTo M (a * 6 + (b + 1)) by rw [← Nat.add_assoc, HN.out (.inr hab)]; exact HK.out)
                    have hne : ((a : Int) != (b : Int)) = false := by simp [hab]
                    clear HK HY HN hab
                    go_wp2
                    go_roundw
                    case rel => exact ⟨b + 1, A, c9, K, hlb, by go_num, rfl, HNN, ho, hzw, HB⟩
                    case measure => simp [intOf]; omega
                  · have HNN := Lib.hid (show K ++ [(⟨(a : Int), (b : Int)⟩ : PairR)] = swTo M (a * 6 + (b + 1)) by rw [← Nat.add_assoc, HY.out hM hab, HK.out])
                    have hne : ((a : Int) != (b : Int)) = true := by rw [bne_iff_ne]; omega
                    clear HK HY HN
                    have hl30 : K.length + 1 ≤ 1073741824 := by have := hK36.out; omega
                    have hr1 := RdF.lit (F := pairF) (w := wr) (cs := #[.int .i64 (a : Int), .int .i64 (b : Int)]) (a := ⟨(a : Int), (b : Int)⟩) rfl (ok_small (by omega) (by omega))
                    have oA := ho.alloc (.cells #[.int .i64 (a : Int), .int .i64 (b : Int)] pairF.t)
                    have HBA := Lib.hid (HB.out.alloc hzw (.cells #[.int .i64 (a : Int), .int .i64 (b : Int)] pairF.t))
                    have hzA : w.heap.size ≤ (wr.alloc (.cells #[.int .i64 (a : Int), .int .i64 (b : Int)] pairF.t)).heap.size := HBA.out.size
                    have hbd := oA.bd
                    go_wp2_with (refine wpList_appendF pairF rfl _ (.tmp 52) (.tmp 56) 31 (.agg #[.int .i64 0, .int .i64 0]) 16 rfl Try.underlying31 info_Pair rfl (by decide) (by decide) w.heap.size _ K [⟨(a : Int), (b : Int)⟩] wr.heap.size 0 1 1 (wr.heap.size + 1) rfl rfl oA hr1 hl30 hzA ?_)
                    intro A5 c5 w5 o5 hg5
                    have hz5 := Nat.le_trans hzA hg5.size
                    have HB5 := Lib.hid (HBA.out.grown hg5 hzA (fun q hq => (hbd q hq).1))
                    clear oA HBA hzA hr1 hg5 hbd ho HB hne hM
                    go_wp2
                    go_roundw
                    case rel => exact ⟨b + 1, A5, c5, _, hlb, by go_num, by rw [List.length_append]; rfl, HNN, by rw [List.length_append]; exact o5, hz5, HB5⟩
                    case measure => simp [intOf]; omega
              · have HNN := Lib.hid (show K = swTo M ((a + 1) * 6) by rw [Nat.succ_mul]; have := HK.out; rwa [show b = 6 by omega] at this)
                clear HK
                go_wp2
                go_roundw
                case rel => exact ⟨a + 1, A, c9, K, hla, by go_num, rfl, HNN, ho, hzw, HB⟩
                case measure => simp [intOf]; omega
          · have HF := Lib.hid (HSW.out.trans (show swTo M 36 = K by rw [HK.out, show a = 6 by omega]))
            go_wp2
            go_ret2
            rw [HF.out]
            exact ⟨A, c9, rfl, ho, HB.out⟩
end Go.Proofs.Ytgkflgfjbaobcaa
