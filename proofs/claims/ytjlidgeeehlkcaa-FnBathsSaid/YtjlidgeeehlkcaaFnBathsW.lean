/- The walk of FnBaths. No condition. -/
import Derived.Test.YtjlidgeeehlkcaaDraws7d
import Derived.Test.YtjlidgeeehlkcaaWords7
import Derived.Test.YtjlidgeeehlkcaaBathFn
import Derived.Test.YtjlidgeeehlkcaaReady3
import Derived.Deep.RegionHeld3
import Derived.OwnWalk
namespace Go.Proofs.Ytjlidgeeehlkcaa
open Go.RowKit

set_option maxRecDepth 100000 in
set_option maxHeartbeats 16000000 in
theorem fnBaths_walk (w : World) (A : Option Addr) (n c : Nat) (R : RdB w w.heap.size A n c) : Calls Try.prog 3 #[.slice A n c] w fun e w' => e = .returned (.bool true) ∧ Below w.heap.size w w' := by
  have hcap := R.cap
  have hmax := R.max
  unfold maxLen at hmax
  have HB := Below.refl w.heap.size w
  have R0 := R
  by_cases hn : n ≤ 65536
  rotate_left
  · go_enter Try.func3, Try.ntmps3
    go_wp2_with fail
    refine (rBig_eq A n c _ (by omega) true (by simp; omega)).mono ?_
    rintro e w' ⟨rfl, rfl⟩
    go_wp2
    go_ret
    exact ⟨rfl, HB⟩
  go_enter Try.func3, Try.ntmps3
  go_wp2_with fail
  refine (rBig_eq A n c _ (by omega) false (by simp; omega)).mono ?_
  rintro e w' ⟨rfl, rfl⟩
  go_wp2_with fail
  refine (drawDyeYarn_any A n c w.heap.size _ R HB.size hn).mono ?_
  rintro e w1 ⟨A2, c2, xs, L, TT, Y, A3, c3, ys, rfl, ⟨hxl, hyl, hL, hT, hY⟩, own, own2, hb⟩
  replace R := R.all hb HB.size
  have OX := own.mono HB.size
  clear own
  have OY := own2.mono HB.size
  clear own2
  replace HB := HB.trans (hb.mono HB.size)
  clear hb
  replace OX := OX.alloc (.cells #[.int .i64 L, .int .i64 TT, .int .i64 Y, .slice A3 ys.length c3] 27)
  replace OY := OY.alloc (.cells #[.int .i64 L, .int .i64 TT, .int .i64 Y, .slice A3 ys.length c3] 27)
  replace R := R.alloc HB.size (.cells #[.int .i64 L, .int .i64 TT, .int .i64 Y, .slice A3 ys.length c3] 27)
  have bB := Blk.new w1 #[.int .i64 L, .int .i64 TT, .int .i64 Y, .slice A3 ys.length c3] 27
  replace HB := HB.alloc HB.size (.cells #[.int .i64 L, .int .i64 TT, .int .i64 Y, .slice A3 ys.length c3] 27)
  obtain ⟨ok, hok⟩ : ∃ z, dyeB xs L TT Y ys = z := ⟨_, rfl⟩
  obtain ⟨oL, hoL⟩ : ∃ z, dyeN xs L TT Y ys L = z := ⟨_, rfl⟩
  obtain ⟨oT, hoT⟩ : ∃ z, dyeN xs L TT Y ys TT = z := ⟨_, rfl⟩
  obtain ⟨out, hout⟩ : ∃ z, dyeL xs L TT Y ys = z := ⟨_, rfl⟩
  obtain ⟨rd, hrd⟩ : ∃ z, isReady1 xs L TT Y ys = z := ⟨_, rfl⟩
  obtain ⟨bt, hbt⟩ : ∃ z, bathB xs L TT Y ys = z := ⟨_, rfl⟩
  obtain ⟨m, hm⟩ : ∃ z, mostV xs L TT Y ys = z := ⟨_, rfl⟩
  obtain ⟨tb, htb⟩ : ∃ z, mostB xs L TT Y ys = z := ⟨_, rfl⟩
  obtain ⟨nd, hnd⟩ : ∃ z, needsForL xs Y = z := ⟨_, rfl⟩
  obtain ⟨nb, hnb⟩ : ∃ z, needsForB xs Y = z := ⟨_, rfl⟩
  obtain rfl : rd = ok := by rw [← hrd, ← hok]; rfl
  have hDi : Hid (∀ (w : World) (A : Option Addr) (c : Nat) (A' : Option Addr) (c' : Nat), RdF dyePartF w w.heap.size A xs.length c xs → Rd w w.heap.size A' ys.length c' ys → Calls Try.prog 6 #[.slice A xs.length c, bathV L TT Y (.slice A' ys.length c')] w (OutBath w oL oT 0 out rd)) := Lib.hid fun w A c A' c' h h' => (by have := implDyeYarn_any A _ c _ xs L TT Y A' _ c' _ ys w h (Nat.le_refl _) h' (Nat.le_refl _); rw [hoL, hoT, hout, hok] at this; exact this)
  have hDs : Hid (∀ (w : World) (A : Option Addr) (c : Nat) (A' : Option Addr) (c' : Nat), RdF dyePartF w w.heap.size A xs.length c xs → Rd w w.heap.size A' ys.length c' ys → Calls Try.prog 7 #[.slice A xs.length c, bathV L TT Y (.slice A' ys.length c')] w (OutBath w oL oT 0 out rd)) := Lib.hid fun w A c A' c' h h' => (by have := specDyeYarn_any A _ c _ xs L TT Y A' _ c' _ ys w h (Nat.le_refl _) h' (Nat.le_refl _); rw [hoL, hoT, hout, hok] at this; exact this)
  have hRi : Hid (∀ (w : World) (A : Option Addr) (c : Nat) (A' : Option Addr) (c' : Nat), RdF dyePartF w w.heap.size A xs.length c xs → Rd w w.heap.size A' ys.length c' ys → Calls Try.prog 9 #[.slice A xs.length c, bathV L TT Y (.slice A' ys.length c')] w (Out w (.tuple #[.bool rd, .bool bt]))) := Lib.hid fun w A c A' c' h h' => (by have := implIsReady_any A _ c _ xs L TT Y A' _ c' _ ys w h (Nat.le_refl _) h' (Nat.le_refl _); rw [hrd, hbt] at this; exact this)
  have hRs : Hid (∀ (w : World) (A : Option Addr) (c : Nat) (A' : Option Addr) (c' : Nat), RdF dyePartF w w.heap.size A xs.length c xs → Rd w w.heap.size A' ys.length c' ys → Calls Try.prog 10 #[.slice A xs.length c, bathV L TT Y (.slice A' ys.length c')] w (Out w (.tuple #[.bool rd, .bool bt]))) := Lib.hid fun w A c A' c' h h' => (by have := specIsReady_any A _ c _ xs L TT Y A' _ c' _ ys w h (Nat.le_refl _) h' (Nat.le_refl _); rw [hrd, hbt] at this; exact this)
  have hBi : Hid (∀ (w : World) (A : Option Addr) (c : Nat) (A' : Option Addr) (c' : Nat), RdF dyePartF w w.heap.size A xs.length c xs → Rd w w.heap.size A' ys.length c' ys → Calls Try.prog 11 #[.slice A xs.length c, bathV L TT Y (.slice A' ys.length c')] w (Tells w bt)) := Lib.hid fun w A c A' c' h h' => (by have := implIsBath_any A _ c _ xs L TT Y A' _ c' _ ys w h (Nat.le_refl _) h' (Nat.le_refl _); rw [hbt] at this; exact this)
  have hMi : Hid (∀ (w : World) (A : Option Addr) (c : Nat) (A' : Option Addr) (c' : Nat), RdF dyePartF w w.heap.size A xs.length c xs → Rd w w.heap.size A' ys.length c' ys → Calls Try.prog 12 #[.slice A xs.length c, bathV L TT Y (.slice A' ys.length c')] w (Out w (.tuple #[.int .i64 m, .bool tb]))) := Lib.hid fun w A c A' c' h h' => (by have := implMostYarn_any A _ c _ xs L TT Y A' _ c' _ ys w h (Nat.le_refl _) h' (Nat.le_refl _); rw [hm, htb] at this; exact this)
  have hMs : Hid (∀ (w : World) (A : Option Addr) (c : Nat) (A' : Option Addr) (c' : Nat), RdF dyePartF w w.heap.size A xs.length c xs → Rd w w.heap.size A' ys.length c' ys → Calls Try.prog 13 #[.slice A xs.length c, bathV L TT Y (.slice A' ys.length c')] w (Out w (.tuple #[.int .i64 m, .bool tb]))) := Lib.hid fun w A c A' c' h h' => (by have := specMostYarn_any A _ c _ xs L TT Y A' _ c' _ ys w h (Nat.le_refl _) h' (Nat.le_refl _); rw [hm, htb] at this; exact this)
  have hNi : Hid (∀ (w : World) (A : Option Addr) (c : Nat), RdF dyePartF w w.heap.size A xs.length c xs → Calls Try.prog 14 #[.slice A xs.length c, .int .i64 Y] w (OutInts w nd nb)) := Lib.hid fun w A c h => (by have := implNeedsFor_any A _ c _ xs Y w h (Nat.le_refl _); rw [hnd, hnb] at this; exact this)
  have hNs : Hid (∀ (w : World) (A : Option Addr) (c : Nat), RdF dyePartF w w.heap.size A xs.length c xs → Calls Try.prog 15 #[.slice A xs.length c, .int .i64 Y] w (OutInts w nd nb)) := Lib.hid fun w A c h => (by have := specNeedsFor_any A _ c _ xs Y w h (Nat.le_refl _); rw [hnd, hnb] at this; exact this)
  have HMF : Hid (tb = true → ∃ t2 : Bool, (0 ≤ m ∧ m ≤ 50000) ∧ (∀ (w : World) (A : Option Addr) (c : Nat) (A' : Option Addr) (c' : Nat), RdF dyePartF w w.heap.size A xs.length c xs → Rd w w.heap.size A' ys.length c' ys → Calls Try.prog 9 #[.slice A xs.length c, bathV L TT m (.slice A' ys.length c')] w (Out w (.tuple #[.bool true, .bool true]))) ∧ (∀ (w : World) (A : Option Addr) (c : Nat) (A' : Option Addr) (c' : Nat), RdF dyePartF w w.heap.size A xs.length c xs → Rd w w.heap.size A' ys.length c' ys → Calls Try.prog 9 #[.slice A xs.length c, bathV L TT (m + 1) (.slice A' ys.length c')] w (Out w (.tuple #[.bool false, .bool t2])))) := Lib.hid fun ho => by
    obtain ⟨h1, h2, h3, h4⟩ := most_facts (xs := xs) (L := L) (T := TT) (Y := Y) (ys := ys) (by rw [htb]; exact ho)
    rw [hm] at h1 h2 h3 h4
    refine ⟨bathB xs L TT (m + 1) ys, h1, fun w A c A' c' h h' => ?_, fun w A c A' c' h h' => ?_⟩
    · have := implIsReady_any A _ c _ xs L TT m A' _ c' _ ys w h (Nat.le_refl _) h' (Nat.le_refl _)
      rw [h2, h3] at this
      exact this
    · have := implIsReady_any A _ c _ xs L TT (m + 1) A' _ c' _ ys w h (Nat.le_refl _) h' (Nat.le_refl _)
      rw [h4] at this
      exact this
  have HDM : Hid (rd = true → tb = true ∧ Y ≤ m) := Lib.hid fun ho => by
    have := dye_most (xs := xs) (L := L) (T := TT) (Y := Y) (ys := ys) (by rw [hok]; exact ho)
    rw [htb, hm] at this
    exact this
  have HAD : Hid (rd = true → (nd.length = xs.length ∧ ys.length = xs.length) ∧ Hid (∀ (k : Nat) (a : DyePartR) (y z : Int), xs[k]? = some a → ys[k]? = some y → nd.getD k 0 = z → ∃ (zs : List Int) (l t yy : Int), zs.length = xs.length ∧ zs.getD k 0 = y ∧ ∀ (w : World) (A : Option Addr) (c : Nat) (A' : Option Addr) (c' : Nat), RdF dyePartF w w.heap.size A xs.length c xs → Rd w w.heap.size A' out.length c' out → Calls Try.prog 17 #[.slice A xs.length c, bathV oL oT 0 (.slice A' out.length c'), .string a.f0, .int .i64 z] w (OutBath w l t yy zs true))) := Lib.hid fun ho => by
    obtain ⟨h1, h2, h3⟩ := dye_add (xs := xs) (L := L) (T := TT) (Y := Y) (ys := ys) (by rw [hok]; exact ho) hoL hoT hout hnd
    exact ⟨⟨h1, h2⟩, Lib.hid h3⟩
  clear hok hoL hoT hout hrd hbt hm htb hnd hnb
  have ebB0 := bB.cell 0
  have ebB1 := bB.cell 1
  have ebB2 := bB.cell 2
  have ebB3 := bB.cell 3
  have zbB := bB.lt
  go_wp2_with fail
  refine (hDi.out _ _ _ _ _ OX.rd OY.rd).mono ?_
  rintro e w2 ⟨A4, c4, rfl, own, hb⟩
  clear ebB0 ebB1 ebB2 ebB3 zbB
  replace OX := OX.all hb
  replace OY := OY.all hb
  replace bB := bB.all hb
  replace R := R.all hb HB.size
  have OO := own.mono HB.size
  clear own
  replace HB := HB.trans (hb.mono HB.size)
  clear hb
  replace OX := OX.alloc (.cells #[.int .i64 oL, .int .i64 oT, .int .i64 0, .slice A4 out.length c4] 27)
  replace OY := OY.alloc (.cells #[.int .i64 oL, .int .i64 oT, .int .i64 0, .slice A4 out.length c4] 27)
  replace OO := OO.alloc (.cells #[.int .i64 oL, .int .i64 oT, .int .i64 0, .slice A4 out.length c4] 27)
  replace bB := bB.alloc (.cells #[.int .i64 oL, .int .i64 oT, .int .i64 0, .slice A4 out.length c4] 27)
  replace R := R.alloc HB.size (.cells #[.int .i64 oL, .int .i64 oT, .int .i64 0, .slice A4 out.length c4] 27)
  have bO := Blk.new w2 #[.int .i64 oL, .int .i64 oT, .int .i64 0, .slice A4 out.length c4] 27
  replace HB := HB.alloc HB.size (.cells #[.int .i64 oL, .int .i64 oT, .int .i64 0, .slice A4 out.length c4] 27)
  have ebB0 := bB.cell 0
  have ebB1 := bB.cell 1
  have ebB2 := bB.cell 2
  have ebB3 := bB.cell 3
  have zbB := bB.lt
  have ebO0 := bO.cell 0
  have ebO1 := bO.cell 1
  have ebO2 := bO.cell 2
  have ebO3 := bO.cell 3
  have zbO := bO.lt
  go_wp2_with fail
  refine (hDs.out _ _ _ _ _ OX.rd OY.rd).mono ?_
  rintro e w3 ⟨A5, c5, rfl, own, hb⟩
  clear ebB0 ebB1 ebB2 ebB3 zbB ebO0 ebO1 ebO2 ebO3 zbO
  replace OX := OX.all hb
  replace OY := OY.all hb
  replace OO := OO.all hb
  replace bB := bB.all hb
  replace bO := bO.all hb
  replace R := R.all hb HB.size
  have OW := own.mono HB.size
  clear own
  replace HB := HB.trans (hb.mono HB.size)
  clear hb
  replace OX := OX.alloc (.cells #[.int .i64 oL, .int .i64 oT, .int .i64 0, .slice A5 out.length c5] 27)
  replace OY := OY.alloc (.cells #[.int .i64 oL, .int .i64 oT, .int .i64 0, .slice A5 out.length c5] 27)
  replace OO := OO.alloc (.cells #[.int .i64 oL, .int .i64 oT, .int .i64 0, .slice A5 out.length c5] 27)
  replace OW := OW.alloc (.cells #[.int .i64 oL, .int .i64 oT, .int .i64 0, .slice A5 out.length c5] 27)
  replace bB := bB.alloc (.cells #[.int .i64 oL, .int .i64 oT, .int .i64 0, .slice A5 out.length c5] 27)
  replace bO := bO.alloc (.cells #[.int .i64 oL, .int .i64 oT, .int .i64 0, .slice A5 out.length c5] 27)
  replace R := R.alloc HB.size (.cells #[.int .i64 oL, .int .i64 oT, .int .i64 0, .slice A5 out.length c5] 27)
  have bW := Blk.new w3 #[.int .i64 oL, .int .i64 oT, .int .i64 0, .slice A5 out.length c5] 27
  replace HB := HB.alloc HB.size (.cells #[.int .i64 oL, .int .i64 oT, .int .i64 0, .slice A5 out.length c5] 27)
  clear hDi hDs
  have ebB0 := bB.cell 0
  have ebB1 := bB.cell 1
  have ebB2 := bB.cell 2
  have ebB3 := bB.cell 3
  have zbB := bB.lt
  have ebO0 := bO.cell 0
  have ebO1 := bO.cell 1
  have ebO2 := bO.cell 2
  have ebO3 := bO.cell 3
  have zbO := bO.lt
  have ebW0 := bW.cell 0
  have ebW1 := bW.cell 1
  have ebW2 := bW.cell 2
  have ebW3 := bW.cell 3
  have zbW := bW.lt
  go_wp2_with fail
  refine (rBath_same oL oT 0 _ _ _ _ _ _ _ _ out _ OO.rd OW.rd (Nat.le_refl _) (Nat.le_refl _)).mono ?_
  rintro e w4 ⟨rfl, hb⟩
  clear ebB0 ebB1 ebB2 ebB3 zbB ebO0 ebO1 ebO2 ebO3 zbO ebW0 ebW1 ebW2 ebW3 zbW
  replace OX := OX.all hb
  replace OY := OY.all hb
  replace OO := OO.all hb
  replace OW := OW.all hb
  replace bB := bB.all hb
  replace bO := bO.all hb
  replace bW := bW.all hb
  replace R := R.all hb HB.size
  replace HB := HB.trans (hb.mono HB.size)
  clear hb
  clear OW bW
  have ebB0 := bB.cell 0
  have ebB1 := bB.cell 1
  have ebB2 := bB.cell 2
  have ebB3 := bB.cell 3
  have zbB := bB.lt
  have ebO0 := bO.cell 0
  have ebO1 := bO.cell 1
  have ebO2 := bO.cell 2
  have ebO3 := bO.cell 3
  have zbO := bO.lt
  go_wp2_with fail
  refine (hRi.out _ _ _ _ _ OX.rd OY.rd).mono ?_
  rintro e w5 ⟨rfl, hb⟩
  clear ebB0 ebB1 ebB2 ebB3 zbB ebO0 ebO1 ebO2 ebO3 zbO
  replace OX := OX.all hb
  replace OY := OY.all hb
  replace OO := OO.all hb
  replace bB := bB.all hb
  replace bO := bO.all hb
  replace R := R.all hb HB.size
  replace HB := HB.trans (hb.mono HB.size)
  clear hb
  have ebB0 := bB.cell 0
  have ebB1 := bB.cell 1
  have ebB2 := bB.cell 2
  have ebB3 := bB.cell 3
  have zbB := bB.lt
  have ebO0 := bO.cell 0
  have ebO1 := bO.cell 1
  have ebO2 := bO.cell 2
  have ebO3 := bO.cell 3
  have zbO := bO.lt
  go_wp2_with fail
  refine (hRs.out _ _ _ _ _ OX.rd OY.rd).mono ?_
  rintro e w6 ⟨rfl, hb⟩
  clear ebB0 ebB1 ebB2 ebB3 zbB ebO0 ebO1 ebO2 ebO3 zbO
  replace OX := OX.all hb
  replace OY := OY.all hb
  replace OO := OO.all hb
  replace bB := bB.all hb
  replace bO := bO.all hb
  replace R := R.all hb HB.size
  replace HB := HB.trans (hb.mono HB.size)
  clear hb
  have ebB0 := bB.cell 0
  have ebB1 := bB.cell 1
  have ebB2 := bB.cell 2
  have ebB3 := bB.cell 3
  have zbB := bB.lt
  have ebO0 := bO.cell 0
  have ebO1 := bO.cell 1
  have ebO2 := bO.cell 2
  have ebO3 := bO.cell 3
  have zbO := bO.lt
  go_wp2_with fail
  refine (hBi.out _ _ _ _ _ OX.rd OY.rd).mono ?_
  rintro e w7 ⟨rfl, hb⟩
  clear ebB0 ebB1 ebB2 ebB3 zbB ebO0 ebO1 ebO2 ebO3 zbO
  replace OX := OX.all hb
  replace OY := OY.all hb
  replace OO := OO.all hb
  replace bB := bB.all hb
  replace bO := bO.all hb
  replace R := R.all hb HB.size
  replace HB := HB.trans (hb.mono HB.size)
  clear hb
  clear hRi hRs hBi
  have ebB0 := bB.cell 0
  have ebB1 := bB.cell 1
  have ebB2 := bB.cell 2
  have ebB3 := bB.cell 3
  have zbB := bB.lt
  have ebO0 := bO.cell 0
  have ebO1 := bO.cell 1
  have ebO2 := bO.cell 2
  have ebO3 := bO.cell 3
  have zbO := bO.lt
  go_wp2_with fail
  refine (hMi.out _ _ _ _ _ OX.rd OY.rd).mono ?_
  rintro e w8 ⟨rfl, hb⟩
  clear ebB0 ebB1 ebB2 ebB3 zbB ebO0 ebO1 ebO2 ebO3 zbO
  replace OX := OX.all hb
  replace OY := OY.all hb
  replace OO := OO.all hb
  replace bB := bB.all hb
  replace bO := bO.all hb
  replace R := R.all hb HB.size
  replace HB := HB.trans (hb.mono HB.size)
  clear hb
  have ebB0 := bB.cell 0
  have ebB1 := bB.cell 1
  have ebB2 := bB.cell 2
  have ebB3 := bB.cell 3
  have zbB := bB.lt
  have ebO0 := bO.cell 0
  have ebO1 := bO.cell 1
  have ebO2 := bO.cell 2
  have ebO3 := bO.cell 3
  have zbO := bO.lt
  go_wp2_with fail
  refine (hMs.out _ _ _ _ _ OX.rd OY.rd).mono ?_
  rintro e w9 ⟨rfl, hb⟩
  clear ebB0 ebB1 ebB2 ebB3 zbB ebO0 ebO1 ebO2 ebO3 zbO
  replace OX := OX.all hb
  replace OY := OY.all hb
  replace OO := OO.all hb
  replace bB := bB.all hb
  replace bO := bO.all hb
  replace R := R.all hb HB.size
  replace HB := HB.trans (hb.mono HB.size)
  clear hb
  clear hMi hMs
  cases rd
  case true =>
    obtain ⟨rfl, hYm⟩ := HDM.out rfl
    have F1 : decide (m < Y) = false := decide_eq_false (by omega)
    have F2 : ¬ m < Y := by omega
    clear HDM hYm
    obtain ⟨t2, hm0, hQ1, hQ2⟩ := HMF.out rfl
    have HQ1 := Lib.hid hQ1
    have HQ2 := Lib.hid hQ2
    have ew : IntKind.i64.wrap (m + 1) = m + 1 := IntWalk.i64_in _ (by omega)
    clear HMF hQ1 hQ2
    have ebB0 := bB.cell 0
    have ebB1 := bB.cell 1
    have ebB2 := bB.cell 2
    have ebB3 := bB.cell 3
    have zbB := bB.lt
    have ebO0 := bO.cell 0
    have ebO1 := bO.cell 1
    have ebO2 := bO.cell 2
    have ebO3 := bO.cell 3
    have zbO := bO.lt
    go_wp2_with fail
    clear ebB0 ebB1 ebB2 ebB3 ebO0 ebO1 ebO2 ebO3 zbB zbO F1 F2
    have qbB := bB.lt
    have qbO := bO.lt
    have qHB := HB.size
    have hbx := ((Below.refl w9.heap.size w9).alloc (Nat.le_refl _) (.cells #[.int .i64 L, .int .i64 TT, .int .i64 m, .slice A3 ys.length c3] 27))
    replace OX := OX.all hbx
    replace OY := OY.all hbx
    replace OO := OO.all hbx
    replace bB := bB.all hbx
    replace bO := bO.all hbx
    replace R := R.all hbx HB.size
    have bX := Blk.new w9 #[.int .i64 L, .int .i64 TT, .int .i64 m, .slice A3 ys.length c3] 27
    replace HB := HB.trans (hbx.mono HB.size)
    clear hbx
    obtain ⟨P, hP⟩ : ∃ q, w9.heap.size = q := ⟨_, rfl⟩
    refine (HQ1.out _ _ _ _ _ OX.rd OY.rd).mono ?_
    rintro e w50 ⟨rfl, hb⟩
    replace OX := OX.all hb
    replace OY := OY.all hb
    replace OO := OO.all hb
    replace bB := bB.all hb
    replace bO := bO.all hb
    replace R := R.all hb HB.size
    replace bX := bX.all hb
    replace HB := HB.trans (hb.mono HB.size)
    clear hb HQ1
    rw [hP] at bX ⊢
    have u0 := bX.cell 0
    have u1 := bX.cell 1
    have u2 := bX.cell 2
    have u3 := bX.cell 3
    have g2 := bX.frozen 2
    go_wp2_with fail
    clear u0 u1 u2 u3 g2
    replace OX := OX.far (a := ⟨P, 2, none⟩) (row_ne' OX.1 bX (by decide)) (.int .i64 (m + 1))
    replace OY := OY.far (a := ⟨P, 2, none⟩) (row_ne' OY.1 bX (by decide)) (.int .i64 (m + 1))
    replace OO := OO.far (a := ⟨P, 2, none⟩) (row_ne' OO.1 bX (by decide)) (.int .i64 (m + 1))
    replace bB := bB.far (a := ⟨P, 2, none⟩) (by show _ ≠ P; omega) (.int .i64 (m + 1))
    replace bO := bO.far (a := ⟨P, 2, none⟩) (by show _ ≠ P; omega) (.int .i64 (m + 1))
    replace HB := HB.setCell (p := ⟨P, 2, none⟩) (by show w.heap.size ≤ P; omega) (.int .i64 (m + 1))
    replace R := R0.all HB (Nat.le_refl _)
    clear bX
    refine (HQ2.out _ _ _ _ _ OX.rd OY.rd).mono ?_
    rintro e w51 ⟨rfl, hb⟩
    replace OX := OX.all hb
    replace OY := OY.all hb
    replace OO := OO.all hb
    replace bB := bB.all hb
    replace bO := bO.all hb
    replace R := R.all hb HB.size
    replace HB := HB.trans (hb.mono HB.size)
    clear hb HQ2 ew hP qHB qbB qbO
    cases t2
    case true =>
      have ebB0 := bB.cell 0
      have ebB1 := bB.cell 1
      have ebB2 := bB.cell 2
      have ebB3 := bB.cell 3
      have zbB := bB.lt
      have ebO0 := bO.cell 0
      have ebO1 := bO.cell 1
      have ebO2 := bO.cell 2
      have ebO3 := bO.cell 3
      have zbO := bO.lt
      go_wp2_with fail
      refine (hNi.out _ _ _ OX.rd).mono ?_
      rintro e w10 ⟨A6, c6, rfl, own, hb⟩
      clear ebB0 ebB1 ebB2 ebB3 zbB ebO0 ebO1 ebO2 ebO3 zbO
      replace OX := OX.all hb
      replace OY := OY.all hb
      replace OO := OO.all hb
      replace bB := bB.all hb
      replace bO := bO.all hb
      replace R := R.all hb HB.size
      have ON := own.mono HB.size
      clear own
      replace HB := HB.trans (hb.mono HB.size)
      clear hb
      have ebB0 := bB.cell 0
      have ebB1 := bB.cell 1
      have ebB2 := bB.cell 2
      have ebB3 := bB.cell 3
      have zbB := bB.lt
      have ebO0 := bO.cell 0
      have ebO1 := bO.cell 1
      have ebO2 := bO.cell 2
      have ebO3 := bO.cell 3
      have zbO := bO.lt
      go_wp2_with fail
      refine (hNs.out _ _ _ OX.rd).mono ?_
      rintro e w11 ⟨A7, c7, rfl, own, hb⟩
      clear ebB0 ebB1 ebB2 ebB3 zbB ebO0 ebO1 ebO2 ebO3 zbO
      replace OX := OX.all hb
      replace OY := OY.all hb
      replace OO := OO.all hb
      replace ON := ON.all hb
      replace bB := bB.all hb
      replace bO := bO.all hb
      replace R := R.all hb HB.size
      have OM := own.mono HB.size
      clear own
      replace HB := HB.trans (hb.mono HB.size)
      clear hb
      clear hNi hNs
      have ebB0 := bB.cell 0
      have ebB1 := bB.cell 1
      have ebB2 := bB.cell 2
      have ebB3 := bB.cell 3
      have zbB := bB.lt
      have ebO0 := bO.cell 0
      have ebO1 := bO.cell 1
      have ebO2 := bO.cell 2
      have ebO3 := bO.cell 3
      have zbO := bO.lt
      go_wp2_with fail
      refine (rInts_low _ _ _ _ _ _ _ _ nd _ ON.rd OM.rd).mono ?_
      rintro e w12 ⟨rfl, hb⟩
      clear ebB0 ebB1 ebB2 ebB3 zbB ebO0 ebO1 ebO2 ebO3 zbO
      replace OX := OX.all hb
      replace OY := OY.all hb
      replace OO := OO.all hb
      replace ON := ON.all hb
      replace OM := OM.all hb
      replace bB := bB.all hb
      replace bO := bO.all hb
      replace R := R.all hb HB.size
      replace HB := HB.trans (hb.mono HB.size)
      clear hb
      clear OM
      obtain ⟨⟨hnl, hyx⟩, HA⟩ := HAD.out (by first | rfl | trivial)
      have HNL := Lib.hid hnl
      have HYX := Lib.hid hyx
      clear HAD hnl hyx
      go_wp2
      go_loopw [26] (fun ii wr => ∃ k : Nat, k ≤ xs.length ∧ ii = .int .i64 (k : Int) ∧ Below w12.heap.size w12 wr) (fun ii _ => xs.length - (intOf ii).toNat)
      case atStart => exact ⟨0, Nat.zero_le _, rfl, Below.refl _ _⟩
      case round =>
        obtain ⟨k, hk, rfl, hW⟩ := hrel
        by_cases hlt : k < xs.length
        · have hki : (k : Int) < (xs.length : Int) := by omega
          have hk0 : (0 : Int) ≤ (k : Int) := by omega
          have OXr := OX.all hW
          have OYr := OY.all hW
          have OOr := OO.all hW
          have ONr := ON.all hW
          have bBr := bB.all hW
          have bOr := bO.all hW
          have hzW := hW.size
          obtain ⟨b, off, a, eA, hbB, ok, HX, hc0, hc1⟩ := DyePartR_at (F := dyePartF) rfl (fun _ => rfl) (fun _ => rfl) OXr.rd hlt
          subst eA
          obtain ⟨bn, fn, z, eN, hbn, hn0, _, _, HZ⟩ := ONr.rd.at (k := k) (by have := HNL.out; omega)
          subst eN
          obtain ⟨by_, fy, y, eY, hby, hy0, _, _, HYy⟩ := OYr.rd.at (k := k) (by have := HYX.out; omega)
          subst eY
          have hkn : (k : Int) < (nd.length : Int) := by have := HNL.out; omega
          have hky : (k : Int) < (ys.length : Int) := by have := HYX.out; omega
          obtain ⟨zs, l, t, yy, hzl, hzk, hC⟩ := HA.out k a y z HX.out (by have h1 := HYy.out; have h2 : k < ys.length := (by have := HYX.out; omega); rw [List.getElem?_eq_getElem h2, ← getD_at h2, h1]) HZ.out
          have HC := Lib.hid hC
          have HZL := Lib.hid hzl
          have HZK := Lib.hid hzk
          clear hC hzl hzk
          have OXd : OwnF dyePartF wr.drew _ _ _ := OXr.drewN 1
          have OOd : Own wr.drew _ _ _ := OOr.drewN 1
          go_wp2
          obtain ⟨PO, hPO⟩ : ∃ z, w2.heap.size = z := ⟨_, rfl⟩
          rw [hPO] at bO bOr ⊢
          obtain ⟨PB, hPB⟩ : ∃ z, w1.heap.size = z := ⟨_, rfl⟩
          rw [hPB] at bB bBr ⊢
          replace hPO := Lib.hid hPO
          replace hPB := Lib.hid hPB
          clear bB bO
          have hPOr := bOr.lt
          have hPBr := bBr.lt
          refine wp_region_noPanic ?_
          refine wp_region_held_drew (S := (fun w' => w'.cell? ⟨PO, 0, none⟩ = some (.int .i64 oL) ∧ w'.cell? ⟨PO, 1, none⟩ = some (.int .i64 oT) ∧ w'.cell? ⟨PO, 2, none⟩ = some (.int .i64 0) ∧ w'.cell? ⟨PO, 3, none⟩ = some (.slice A4 out.length c4) ∧ w'.cell? ⟨b, off + k * 2, none⟩ = some (.string a.f0) ∧ w'.cell? ⟨bn, fn + k, none⟩ = some (.int .i64 z))) (by kernel_rfl) (by exact ⟨bOr.cell 0, bOr.cell 1, bOr.cell 2, bOr.cell 3, hc0, hn0⟩) (fun hHeld => ?_)
          refine wpAnyH_take (i := 0) (v := ?_) rfl (by kernel_rfl) (by kernel_rfl) (by kernel_rfl) (fun _ _ _ h => h) (Or.inl ⟨by rfl, ?_⟩) (by assumption) ?_
          rotate_left
          · intro w hSw; (try dsimp only at hSw); go_simp; (try with_reducible rfl)
          (try simp only [Act.put, List.getElem_toArray, List.getElem_cons_zero, List.setIfInBounds_toArray, List.set_cons_zero, List.set_cons_succ])
          refine wpAnyH_take (i := 1) (v := ?_) rfl (by kernel_rfl) (by kernel_rfl) (by kernel_rfl) (fun _ _ _ h => h) (Or.inl ⟨by rfl, ?_⟩) (by assumption) ?_
          rotate_left
          · intro w hSw; (try dsimp only at hSw); go_simp; (try with_reducible rfl)
          (try simp only [Act.put, List.getElem_toArray, List.getElem_cons_zero, List.getElem_cons_succ, List.setIfInBounds_toArray, List.set_cons_zero, List.set_cons_succ])
          refine wpAnyH_take (i := 2) (v := ?_) rfl (by kernel_rfl) (by kernel_rfl) (by kernel_rfl) (fun _ _ _ h => h) (Or.inl ⟨by rfl, ?_⟩) (by assumption) ?_
          rotate_left
          · intro w hSw; (try dsimp only at hSw); go_simp; (try with_reducible rfl)
          (try simp only [Act.put, List.getElem_toArray, List.getElem_cons_zero, List.getElem_cons_succ, List.setIfInBounds_toArray, List.set_cons_zero, List.set_cons_succ])
          refine wpAnyH_take (i := 3) (v := ?_) rfl (by kernel_rfl) (by kernel_rfl) (by kernel_rfl) (fun _ _ _ h => h) (Or.inl ⟨by rfl, ?_⟩) (by assumption) ?_
          rotate_left
          · intro w hSw; (try dsimp only at hSw); go_simp; (try with_reducible rfl)
          (try simp only [Act.put, List.getElem_toArray, List.getElem_cons_zero, List.getElem_cons_succ, List.setIfInBounds_toArray, List.set_cons_zero, List.set_cons_succ])
          refine wpAnyH_take (i := 4) (v := ?_) rfl (by kernel_rfl) (by kernel_rfl) (by kernel_rfl) (fun _ _ _ h => h) (Or.inl ⟨by rfl, ?_⟩) (by assumption) ?_
          rotate_left
          · intro w hSw; (try dsimp only at hSw); go_simp; (try with_reducible rfl)
          (try simp only [Act.put, List.getElem_toArray, List.getElem_cons_zero, List.getElem_cons_succ, List.setIfInBounds_toArray, List.set_cons_zero, List.set_cons_succ])
          refine wpAnyH_take (i := 5) (v := ?_) rfl (by kernel_rfl) (by kernel_rfl) (by kernel_rfl) (fun _ _ _ h => h) (Or.inl ⟨by rfl, ?_⟩) (by assumption) ?_
          rotate_left
          · intro w hSw; (try dsimp only at hSw); go_simp; (try with_reducible rfl)
          (try simp only [Act.put, List.getElem_toArray, List.getElem_cons_zero, List.getElem_cons_succ, List.setIfInBounds_toArray, List.set_cons_zero, List.set_cons_succ])
          refine wpAnyH_take (i := 6) (v := ?_) rfl (by kernel_rfl) (by kernel_rfl) (by kernel_rfl) (fun _ _ _ h => h) (Or.inl ⟨by rfl, ?_⟩) (by assumption) ?_
          rotate_left
          · intro w hSw; (try dsimp only at hSw); go_simp; (try with_reducible rfl)
          (try simp only [Act.put, List.getElem_toArray, List.getElem_cons_zero, List.getElem_cons_succ, List.setIfInBounds_toArray, List.set_cons_zero, List.set_cons_succ])
          refine wpAnyH_take (i := 7) (v := ?_) rfl (by kernel_rfl) (by kernel_rfl) (by kernel_rfl) (fun _ _ _ h => h) (Or.inl ⟨by rfl, ?_⟩) (by assumption) ?_
          rotate_left
          · intro w hSw; (try dsimp only at hSw); go_simp; (try with_reducible rfl)
          (try simp only [Act.put, List.getElem_toArray, List.getElem_cons_zero, List.getElem_cons_succ, List.setIfInBounds_toArray, List.set_cons_zero, List.set_cons_succ])
          refine wpAnyH_take (i := 8) (v := ?_) rfl (by kernel_rfl) (by kernel_rfl) (by kernel_rfl) (fun _ _ _ h => h) (Or.inl ⟨by rfl, ?_⟩) (by assumption) ?_
          rotate_left
          · intro w hSw; (try dsimp only at hSw); go_simp; (try with_reducible rfl)
          (try simp only [Act.put, List.getElem_toArray, List.getElem_cons_zero, List.getElem_cons_succ, List.setIfInBounds_toArray, List.set_cons_zero, List.set_cons_succ])
          refine wpAnyH_take (i := 9) (v := ?_) rfl (by kernel_rfl) (by kernel_rfl) (by kernel_rfl) (fun _ _ _ h => h) (Or.inl ⟨by rfl, ?_⟩) (by assumption) ?_
          rotate_left
          · intro w hSw; (try dsimp only at hSw); go_simp; (try with_reducible rfl)
          (try simp only [Act.put, List.getElem_toArray, List.getElem_cons_zero, List.getElem_cons_succ, List.setIfInBounds_toArray, List.set_cons_zero, List.set_cons_succ])
          refine wpAnyH_take (i := 10) (v := ?_) rfl (by kernel_rfl) (by kernel_rfl) (by kernel_rfl) (fun _ _ _ h => h) (Or.inl ⟨by rfl, ?_⟩) (by assumption) ?_
          rotate_left
          · intro w hSw; (try dsimp only at hSw); go_simp; (try with_reducible rfl)
          (try simp only [Act.put, List.getElem_toArray, List.getElem_cons_zero, List.getElem_cons_succ, List.setIfInBounds_toArray, List.set_cons_zero, List.set_cons_succ])
          refine wpAnyH_ready (rs := [11, 15]) (by kernel_rfl) (by simp) ?_
          refine AllReadyH.cons rfl (fun K hK => ?_) ?_
          · skip
            go_simp
            (with_reducible refine (HC.out _ _ _ _ _ OXd.rd OOd.rd).mono ?_)
            rintro e w60 ⟨A8, c8, rfl, OZ, hb⟩
            replace hb := below_drew' hb
            replace hc0 := cells_of hb hc0 hbB
            replace hn0 := cells_of hb hn0 hbn
            replace hy0 := cells_of hb hy0 hby
            replace bBr := bBr.all hb
            replace bOr := bOr.all hb
            have hW6 := hW.trans (hb.mono hzW)
            have hz6 := hW6.size
            refine hK.out _ _ (by exact ⟨bOr.cell 0, bOr.cell 1, bOr.cell 2, bOr.cell 3, hc0, hn0⟩) (fun hHeld => ?_)
            clear hK K
            (try simp only [Act.put, List.getElem_toArray, List.getElem_cons_zero, List.getElem_cons_succ, List.setIfInBounds_toArray, List.set_cons_zero, List.set_cons_succ])
            refine wpAnyH_take (i := 12) (v := ?_) rfl (by kernel_rfl) (by kernel_rfl) (by kernel_rfl) (fun _ _ _ h => h) (Or.inl ⟨by rfl, ?_⟩) (by assumption) ?_
            rotate_left
            · intro w hSw; (try dsimp only at hSw); go_simp; (try with_reducible rfl)
            (try simp only [Act.put, List.getElem_toArray, List.getElem_cons_zero, List.getElem_cons_succ, List.setIfInBounds_toArray, List.set_cons_zero, List.set_cons_succ])
            refine wpAnyH_take (i := 13) (v := ?_) rfl (by kernel_rfl) (by kernel_rfl) (by kernel_rfl) (fun _ _ _ h => h) (Or.inl ⟨by rfl, ?_⟩) (by assumption) ?_
            rotate_left
            · intro w hSw; (try dsimp only at hSw); go_simp; (try with_reducible rfl)
            (try simp only [Act.put, List.getElem_toArray, List.getElem_cons_zero, List.getElem_cons_succ, List.setIfInBounds_toArray, List.set_cons_zero, List.set_cons_succ])
            refine wpAnyH_take (i := 14) (v := ?_) rfl (by kernel_rfl) (by kernel_rfl) (by kernel_rfl) (fun _ _ _ h => h) (Or.inl ⟨by rfl, ?_⟩) (by assumption) ?_
            rotate_left
            · intro w hSw; (try dsimp only at hSw); go_simp; (try with_reducible rfl)
            (try simp only [Act.put, List.getElem_toArray, List.getElem_cons_zero, List.getElem_cons_succ, List.setIfInBounds_toArray, List.set_cons_zero, List.set_cons_succ])
            refine wpAnyH_ready (rs := [15]) (by kernel_rfl) (by simp) ?_
            refine AllReadyH.cons rfl (fun K hK => ?_) AllReadyH.nil
            go_simp
            have obz := (Below.refl w60.heap.size w60).alloc (Nat.le_refl _) (.cells #[.int .i64 0, .int .i64 0, .int .i64 0, .slice none 0 0] 27)
            have hbA := cells_of obz hc0 (Nat.lt_of_lt_of_le hbB hb.size)
            have hbN := cells_of obz hn0 (Nat.lt_of_lt_of_le hbn hb.size)
            have bOz := bOr.all obz
            refine hK.out _ _ (by exact ⟨bOz.cell 0, bOz.cell 1, bOz.cell 2, bOz.cell 3, hbA, hbN⟩) (fun hHeld => ?_)
            clear hK K
            (try simp only [Act.put, List.getElem_toArray, List.getElem_cons_zero, List.getElem_cons_succ, List.setIfInBounds_toArray, List.set_cons_zero, List.set_cons_succ])
            refine wpAnyH_ready (rs := [16]) (by kernel_rfl) (by simp) ?_
            refine AllReadyH.cons rfl (fun K hK => ?_) AllReadyH.nil
            go_simp
            have obv := (Below.refl w60.heap.size w60).alloc (Nat.le_refl _) (.cells #[.int .i64 l, .int .i64 t, .int .i64 yy, .slice A8 zs.length c8] 27)
            have hvA := cells_of obv hc0 (Nat.lt_of_lt_of_le hbB hb.size)
            have hvN := cells_of obv hn0 (Nat.lt_of_lt_of_le hbn hb.size)
            have bOv := bOr.all obv
            refine hK.out _ _ (by exact ⟨bOv.cell 0, bOv.cell 1, bOv.cell 2, bOv.cell 3, hvA, hvN⟩) (fun hHeld => ?_)
            clear hK K
            (try simp only [Act.put, List.getElem_toArray, List.getElem_cons_zero, List.getElem_cons_succ, List.setIfInBounds_toArray, List.set_cons_zero, List.set_cons_succ])
            refine wpAnyH_take (i := 17) (v := ?_) rfl (by kernel_rfl) (by kernel_rfl) (by kernel_rfl) (fun _ _ _ h => h) (Or.inl ⟨by rfl, ?_⟩) (by assumption) ?_
            rotate_left
            · intro w hSw; (try dsimp only at hSw); go_simp; (try with_reducible rfl)
            (try simp only [Act.put, List.getElem_toArray, List.getElem_cons_zero, List.getElem_cons_succ, List.setIfInBounds_toArray, List.set_cons_zero, List.set_cons_succ])
            refine wpAnyH_done (by kernel_rfl) ?_ _
            refine NoPanic.normal ?_
            have BZf := Blk.new w60 #[.int .i64 l, .int .i64 t, .int .i64 yy, .slice A8 zs.length c8] 27
            have OZf := OZ.all obv
            have bBf := bBr.all obv
            have hyf := cells_of obv hy0 (Nat.lt_of_lt_of_le hby hb.size)
            have hWf := Lib.hid (hW6.trans (obv.mono hz6))
            obtain ⟨gz, oz, z0, eZ, _, hz0, _, _, HZ0⟩ := OZf.rd.at (k := k) (by have := HZL.out; omega)
            subst eZ
            obtain rfl : y = z0 := by rw [← HZK.out, HZ0.out]
            have x3 := BZf.cell 3
            have b3 := bBf.cell 3
            have hkz : (k : Int) < (zs.length : Int) := by have := HZL.out; omega
            have hll : ((zs.length : Int) != (xs.length : Int)) = false := by rw [HZL.out]; simp
            have hll2 : ((zs.length : Int) == (xs.length : Int)) = true := by rw [HZL.out]; simp
            clear hc0 hn0 hy0 bBr bOr OZ hb
            go_wp2
            go_quiet (fail)
            go_wp2
            have hPO1 := hPO.out
            have hPB1 := hPB.out
            clear hPO hPB
            subst hPO1
            subst hPB1
            go_roundw
            case rel => exact ⟨k + 1, by omega, by go_num, by first | exact hWf.out | exact belowD hWf.out | exact belowN hWf.out _⟩
            case measure => simp [intOf]; omega
          refine AllReadyH.cons rfl (fun K hK => ?_) AllReadyH.nil
          go_simp
          have obz := (Below.refl wr.heap.size wr.drew).alloc (Nat.le_refl wr.heap.size) (.cells #[.int .i64 0, .int .i64 0, .int .i64 0, .slice none 0 0] 27)
          have BZ := Blk.new wr.drew #[.int .i64 0, .int .i64 0, .int .i64 0, .slice none 0 0] 27
          replace hc0 := cells_of obz hc0 hbB
          replace hn0 := cells_of obz hn0 hbn
          replace hy0 := cells_of obz hy0 hby
          have bBd : Blk wr.drew _ _ _ := bBr
          have bOd : Blk wr.drew _ _ _ := bOr
          replace bBr := bBd.all obz
          replace bOr := bOd.all obz
          clear bBd bOd
          replace OXd := OXd.all obz
          replace OOd := OOd.all obz
          have hWA := (belowD hW).trans (obz.mono hzW)
          clear obz
          try rw [show (wr.alloc (.cells #[.int .i64 0, .int .i64 0, .int .i64 0, .slice none 0 0] 27)).drew = wr.drew.alloc (.cells #[.int .i64 0, .int .i64 0, .int .i64 0, .slice none 0 0] 27) from rfl]
          obtain ⟨wA, hwA⟩ : ∃ v, wr.drew.alloc (.cells #[.int .i64 0, .int .i64 0, .int .i64 0, .slice none 0 0] 27) = v := ⟨_, rfl⟩
          have hzA : wr.heap.size < wA.heap.size := by rw [← hwA]; simp
          have eQ : wr.drew.heap.size = wr.heap.size := rfl
          rw [eQ] at BZ
          rw [hwA] at BZ hc0 hn0 hy0 bBr bOr OXd OOd hWA ⊢
          clear hwA eQ
          refine hK.out _ _ (by exact ⟨bOr.cell 0, bOr.cell 1, bOr.cell 2, bOr.cell 3, hc0, hn0⟩) (fun hHeld => ?_)
          clear hK K
          (try simp only [Act.put, List.getElem_toArray, List.getElem_cons_zero, List.getElem_cons_succ, List.setIfInBounds_toArray, List.set_cons_zero, List.set_cons_succ])
          refine wpAnyH_ready (rs := [11]) (by kernel_rfl) (by simp) ?_
          refine AllReadyH.cons rfl (fun K hK => ?_) AllReadyH.nil
          go_simp
          (with_reducible refine (HC.out _ _ _ _ _ OXd.rd OOd.rd).mono ?_)
          rintro e w60 ⟨A8, c8, rfl, OZ, hb⟩
          replace hc0 := cells_of hb hc0 (Nat.lt_trans hbB hzA)
          replace hn0 := cells_of hb hn0 (Nat.lt_trans hbn hzA)
          replace hy0 := cells_of hb hy0 (Nat.lt_trans hby hzA)
          replace bBr := bBr.all hb
          replace bOr := bOr.all hb
          have hW6 := hWA.trans (hb.mono hWA.size)
          replace BZ := BZ.all hb
          have u0 := BZ.cell 0
          have u1 := BZ.cell 1
          have u2 := BZ.cell 2
          have u3 := BZ.cell 3
          have g0 := BZ.frozen 0
          have g1 := BZ.frozen 1
          have g2 := BZ.frozen 2
          have g3 := BZ.frozen 3
          refine hK.out _ _ (by exact ⟨bOr.cell 0, bOr.cell 1, bOr.cell 2, bOr.cell 3, hc0, hn0⟩) (fun hHeld => ?_)
          clear hK K
          (try simp only [Act.put, List.getElem_toArray, List.getElem_cons_zero, List.getElem_cons_succ, List.setIfInBounds_toArray, List.set_cons_zero, List.set_cons_succ])
          refine wpAnyH_take (i := 12) (v := ?_) rfl (by kernel_rfl) (by kernel_rfl) (by kernel_rfl) (fun _ _ _ h => h) (Or.inl ⟨by rfl, ?_⟩) (by assumption) ?_
          rotate_left
          · intro w hSw; (try dsimp only at hSw); go_simp; (try with_reducible rfl)
          (try simp only [Act.put, List.getElem_toArray, List.getElem_cons_zero, List.getElem_cons_succ, List.setIfInBounds_toArray, List.set_cons_zero, List.set_cons_succ])
          refine wpAnyH_take (i := 13) (v := ?_) rfl (by kernel_rfl) (by kernel_rfl) (by kernel_rfl) (fun _ _ _ h => h) (Or.inl ⟨by rfl, ?_⟩) (by assumption) ?_
          rotate_left
          · intro w hSw; (try dsimp only at hSw); go_simp; (try with_reducible rfl)
          (try simp only [Act.put, List.getElem_toArray, List.getElem_cons_zero, List.getElem_cons_succ, List.setIfInBounds_toArray, List.set_cons_zero, List.set_cons_succ])
          refine wpAnyH_take (i := 14) (v := ?_) rfl (by kernel_rfl) (by kernel_rfl) (by kernel_rfl) (fun _ _ _ h => h) (Or.inl ⟨by rfl, ?_⟩) (by assumption) ?_
          rotate_left
          · intro w hSw; (try dsimp only at hSw); go_simp; (try with_reducible rfl)
          (try simp only [Act.put, List.getElem_toArray, List.getElem_cons_zero, List.getElem_cons_succ, List.setIfInBounds_toArray, List.set_cons_zero, List.set_cons_succ])
          refine wpAnyH_ready (rs := [16]) (by kernel_rfl) (by simp) ?_
          refine AllReadyH.cons rfl (fun K hK => ?_) AllReadyH.nil
          go_simp
          have hbQ := ((((Below.refl wr.heap.size w60).setCell (p := ⟨wr.heap.size, 0, none⟩) (Nat.le_refl _) (.int .i64 l)).setCell (p := ⟨wr.heap.size, 1, none⟩) (Nat.le_refl _) (.int .i64 t)).setCell (p := ⟨wr.heap.size, 2, none⟩) (Nat.le_refl _) (.int .i64 yy)).setCell (p := ⟨wr.heap.size, 3, none⟩) (Nat.le_refl _) (.slice A8 zs.length c8)
          have hvA := cells_of hbQ hc0 hbB
          have hvN := cells_of hbQ hn0 hbn
          have bOv := bOr.below hbQ hPOr
          refine hK.out _ _ (by exact ⟨bOv.cell 0, bOv.cell 1, bOv.cell 2, bOv.cell 3, hvA, hvN⟩) (fun hHeld => ?_)
          clear hK K
          (try simp only [Act.put, List.getElem_toArray, List.getElem_cons_zero, List.getElem_cons_succ, List.setIfInBounds_toArray, List.set_cons_zero, List.set_cons_succ])
          refine wpAnyH_take (i := 17) (v := ?_) rfl (by kernel_rfl) (by kernel_rfl) (by kernel_rfl) (fun _ _ _ h => h) (Or.inl ⟨by rfl, ?_⟩) (by assumption) ?_
          rotate_left
          · intro w hSw; (try dsimp only at hSw); go_simp; (try with_reducible rfl)
          (try simp only [Act.put, List.getElem_toArray, List.getElem_cons_zero, List.getElem_cons_succ, List.setIfInBounds_toArray, List.set_cons_zero, List.set_cons_succ])
          refine wpAnyH_done (by kernel_rfl) ?_ _
          refine NoPanic.normal ?_
          clear u0 u1 u2 u3 g0 g1 g2 g3
          have BZf := BZ.put4t (a' := .int .i64 l) (b' := .int .i64 t) (c' := .int .i64 yy) (d' := .slice A8 zs.length c8)
          have OZf := (((OZ.far (a := ⟨wr.heap.size, 0, none⟩) (row_ne' OZ.1 BZ (by decide)) (.int .i64 l)).far (a := ⟨wr.heap.size, 1, none⟩) (row_ne' OZ.1 BZ (by decide)) (.int .i64 t)).far (a := ⟨wr.heap.size, 2, none⟩) (row_ne' OZ.1 BZ (by decide)) (.int .i64 yy)).far (a := ⟨wr.heap.size, 3, none⟩) (row_ne' OZ.1 BZ (by decide)) (.slice A8 zs.length c8)
          have bBf := bBr.below hbQ hPBr
          have hyf := cells_of hbQ hy0 hby
          have hWf := Lib.hid ((((hW6.setCell (p := ⟨wr.heap.size, 0, none⟩) hzW (.int .i64 l)).setCell (p := ⟨wr.heap.size, 1, none⟩) hzW (.int .i64 t)).setCell (p := ⟨wr.heap.size, 2, none⟩) hzW (.int .i64 yy)).setCell (p := ⟨wr.heap.size, 3, none⟩) hzW (.slice A8 zs.length c8))
          obtain ⟨gz, oz, z0, eZ, _, hz0, _, _, HZ0⟩ := OZf.rd.at (k := k) (by have := HZL.out; omega)
          subst eZ
          obtain rfl : y = z0 := by rw [← HZK.out, HZ0.out]
          have x3 := BZf.cell 3
          have b3 := bBf.cell 3
          have hkz : (k : Int) < (zs.length : Int) := by have := HZL.out; omega
          have hll : ((zs.length : Int) != (xs.length : Int)) = false := by rw [HZL.out]; simp
          have hll2 : ((zs.length : Int) == (xs.length : Int)) = true := by rw [HZL.out]; simp
          clear hc0 hn0 hy0 bBr bOr OZ hb
          go_wp2
          go_quiet (fail)
          go_wp2
          have hPO1 := hPO.out
          have hPB1 := hPB.out
          clear hPO hPB
          subst hPO1
          subst hPB1
          go_roundw
          case rel => exact ⟨k + 1, by omega, by go_num, by first | exact hWf.out | exact belowD hWf.out | exact belowN hWf.out _⟩
          case measure => simp [intOf]; omega
        · obtain rfl : k = xs.length := by omega
          clear HA HNL HYX hlt
          replace OX := OX.all hW
          replace OY := OY.all hW
          replace OO := OO.all hW
          replace ON := ON.all hW
          replace bB := bB.all hW
          replace bO := bO.all hW
          replace R := R.all hW HB.size
          replace HB := HB.trans (hW.mono HB.size)
          clear hW
          clear ON OO bO
          clear OX OY bB
          go_wp2_with fail
          refine (drawAddStuff_any A n c w.heap.size _ R HB.size hn).mono ?_
          rintro e w13 ⟨B2, d2, ps, l, u, v, B3, d3, rs, s, z9, rfl, ⟨hpl, hrl, hl, hu, hv, hs, hz9⟩, own, own2, hb⟩
          replace R := R.all hb HB.size
          have PX := own.mono HB.size
          clear own
          have PY := own2.mono HB.size
          clear own2
          replace HB := HB.trans (hb.mono HB.size)
          clear hb
          replace PX := PX.alloc (.cells #[.int .i64 l, .int .i64 u, .int .i64 v, .slice B3 rs.length d3] 27)
          replace PY := PY.alloc (.cells #[.int .i64 l, .int .i64 u, .int .i64 v, .slice B3 rs.length d3] 27)
          replace R := R.alloc HB.size (.cells #[.int .i64 l, .int .i64 u, .int .i64 v, .slice B3 rs.length d3] 27)
          have bP := Blk.new w13 #[.int .i64 l, .int .i64 u, .int .i64 v, .slice B3 rs.length d3] 27
          replace HB := HB.alloc HB.size (.cells #[.int .i64 l, .int .i64 u, .int .i64 v, .slice B3 rs.length d3] 27)
          obtain ⟨aL, haL⟩ : ∃ z, addN ps l u v rs s z9 l = z := ⟨_, rfl⟩
          obtain ⟨aT, haT⟩ : ∃ z, addN ps l u v rs s z9 u = z := ⟨_, rfl⟩
          obtain ⟨aY, haY⟩ : ∃ z, addN ps l u v rs s z9 v = z := ⟨_, rfl⟩
          obtain ⟨ao, hao⟩ : ∃ z, addL ps l u v rs s z9 = z := ⟨_, rfl⟩
          obtain ⟨ab, hab⟩ : ∃ z, addB ps l u v rs s z9 = z := ⟨_, rfl⟩
          have hAi : Hid (∀ (w : World) (A : Option Addr) (c : Nat) (A' : Option Addr) (c' : Nat), RdF dyePartF w w.heap.size A ps.length c ps → Rd w w.heap.size A' rs.length c' rs → Calls Try.prog 17 #[.slice A ps.length c, bathV l u v (.slice A' rs.length c'), .string s, .int .i64 z9] w (OutBath w aL aT aY ao ab)) := Lib.hid fun w A c A' c' h h' => (by have := implAddStuff_any A _ c _ ps l u v A' _ c' _ rs s z9 w h (Nat.le_refl _) h' (Nat.le_refl _); rw [haL, haT, haY, hao, hab] at this; exact this)
          have hAs : Hid (∀ (w : World) (A : Option Addr) (c : Nat) (A' : Option Addr) (c' : Nat), RdF dyePartF w w.heap.size A ps.length c ps → Rd w w.heap.size A' rs.length c' rs → Calls Try.prog 19 #[.slice A ps.length c, bathV l u v (.slice A' rs.length c'), .string s, .int .i64 z9] w (OutBath w aL aT aY ao ab)) := Lib.hid fun w A c A' c' h h' => (by have := specAddStuff_any A _ c _ ps l u v A' _ c' _ rs s z9 w h (Nat.le_refl _) h' (Nat.le_refl _); rw [haL, haT, haY, hao, hab] at this; exact this)
          clear haL haT haY hao hab
          have ebP0 := bP.cell 0
          have ebP1 := bP.cell 1
          have ebP2 := bP.cell 2
          have ebP3 := bP.cell 3
          have zbP := bP.lt
          go_wp2_with fail
          refine (hAi.out _ _ _ _ _ PX.rd PY.rd).mono ?_
          rintro e w14 ⟨B4, d4, rfl, own, hb⟩
          clear ebP0 ebP1 ebP2 ebP3 zbP
          replace PX := PX.all hb
          replace PY := PY.all hb
          replace bP := bP.all hb
          replace R := R.all hb HB.size
          have QO := own.mono HB.size
          clear own
          replace HB := HB.trans (hb.mono HB.size)
          clear hb
          replace PX := PX.alloc (.cells #[.int .i64 aL, .int .i64 aT, .int .i64 aY, .slice B4 ao.length d4] 27)
          replace PY := PY.alloc (.cells #[.int .i64 aL, .int .i64 aT, .int .i64 aY, .slice B4 ao.length d4] 27)
          replace QO := QO.alloc (.cells #[.int .i64 aL, .int .i64 aT, .int .i64 aY, .slice B4 ao.length d4] 27)
          replace bP := bP.alloc (.cells #[.int .i64 aL, .int .i64 aT, .int .i64 aY, .slice B4 ao.length d4] 27)
          replace R := R.alloc HB.size (.cells #[.int .i64 aL, .int .i64 aT, .int .i64 aY, .slice B4 ao.length d4] 27)
          have bQ := Blk.new w14 #[.int .i64 aL, .int .i64 aT, .int .i64 aY, .slice B4 ao.length d4] 27
          replace HB := HB.alloc HB.size (.cells #[.int .i64 aL, .int .i64 aT, .int .i64 aY, .slice B4 ao.length d4] 27)
          have ebP0 := bP.cell 0
          have ebP1 := bP.cell 1
          have ebP2 := bP.cell 2
          have ebP3 := bP.cell 3
          have zbP := bP.lt
          have ebQ0 := bQ.cell 0
          have ebQ1 := bQ.cell 1
          have ebQ2 := bQ.cell 2
          have ebQ3 := bQ.cell 3
          have zbQ := bQ.lt
          go_wp2_with fail
          refine (hAs.out _ _ _ _ _ PX.rd PY.rd).mono ?_
          rintro e w15 ⟨B5, d5, rfl, own, hb⟩
          clear ebP0 ebP1 ebP2 ebP3 zbP ebQ0 ebQ1 ebQ2 ebQ3 zbQ
          replace PX := PX.all hb
          replace PY := PY.all hb
          replace QO := QO.all hb
          replace bP := bP.all hb
          replace bQ := bQ.all hb
          replace R := R.all hb HB.size
          have QW := own.mono HB.size
          clear own
          replace HB := HB.trans (hb.mono HB.size)
          clear hb
          replace PX := PX.alloc (.cells #[.int .i64 aL, .int .i64 aT, .int .i64 aY, .slice B5 ao.length d5] 27)
          replace PY := PY.alloc (.cells #[.int .i64 aL, .int .i64 aT, .int .i64 aY, .slice B5 ao.length d5] 27)
          replace QO := QO.alloc (.cells #[.int .i64 aL, .int .i64 aT, .int .i64 aY, .slice B5 ao.length d5] 27)
          replace QW := QW.alloc (.cells #[.int .i64 aL, .int .i64 aT, .int .i64 aY, .slice B5 ao.length d5] 27)
          replace bP := bP.alloc (.cells #[.int .i64 aL, .int .i64 aT, .int .i64 aY, .slice B5 ao.length d5] 27)
          replace bQ := bQ.alloc (.cells #[.int .i64 aL, .int .i64 aT, .int .i64 aY, .slice B5 ao.length d5] 27)
          replace R := R.alloc HB.size (.cells #[.int .i64 aL, .int .i64 aT, .int .i64 aY, .slice B5 ao.length d5] 27)
          have bR := Blk.new w15 #[.int .i64 aL, .int .i64 aT, .int .i64 aY, .slice B5 ao.length d5] 27
          replace HB := HB.alloc HB.size (.cells #[.int .i64 aL, .int .i64 aT, .int .i64 aY, .slice B5 ao.length d5] 27)
          clear hAi hAs
          have ebP0 := bP.cell 0
          have ebP1 := bP.cell 1
          have ebP2 := bP.cell 2
          have ebP3 := bP.cell 3
          have zbP := bP.lt
          have ebQ0 := bQ.cell 0
          have ebQ1 := bQ.cell 1
          have ebQ2 := bQ.cell 2
          have ebQ3 := bQ.cell 3
          have zbQ := bQ.lt
          have ebR0 := bR.cell 0
          have ebR1 := bR.cell 1
          have ebR2 := bR.cell 2
          have ebR3 := bR.cell 3
          have zbR := bR.lt
          go_wp2_with fail
          refine (rBath_same aL aT aY _ _ _ _ _ _ _ _ ao _ QO.rd QW.rd (Nat.le_refl _) (Nat.le_refl _)).mono ?_
          rintro e w16 ⟨rfl, hb⟩
          clear ebP0 ebP1 ebP2 ebP3 zbP ebQ0 ebQ1 ebQ2 ebQ3 zbQ ebR0 ebR1 ebR2 ebR3 zbR
          replace PX := PX.all hb
          replace PY := PY.all hb
          replace QO := QO.all hb
          replace QW := QW.all hb
          replace bP := bP.all hb
          replace bQ := bQ.all hb
          replace bR := bR.all hb
          replace R := R.all hb HB.size
          replace HB := HB.trans (hb.mono HB.size)
          clear hb
          go_wp2
          go_ret
          exact ⟨ret_bool (by simp), HB⟩
    case false =>
      have ebB0 := bB.cell 0
      have ebB1 := bB.cell 1
      have ebB2 := bB.cell 2
      have ebB3 := bB.cell 3
      have zbB := bB.lt
      have ebO0 := bO.cell 0
      have ebO1 := bO.cell 1
      have ebO2 := bO.cell 2
      have ebO3 := bO.cell 3
      have zbO := bO.lt
      go_wp2_with fail
      refine (hNi.out _ _ _ OX.rd).mono ?_
      rintro e w10 ⟨A6, c6, rfl, own, hb⟩
      clear ebB0 ebB1 ebB2 ebB3 zbB ebO0 ebO1 ebO2 ebO3 zbO
      replace OX := OX.all hb
      replace OY := OY.all hb
      replace OO := OO.all hb
      replace bB := bB.all hb
      replace bO := bO.all hb
      replace R := R.all hb HB.size
      have ON := own.mono HB.size
      clear own
      replace HB := HB.trans (hb.mono HB.size)
      clear hb
      have ebB0 := bB.cell 0
      have ebB1 := bB.cell 1
      have ebB2 := bB.cell 2
      have ebB3 := bB.cell 3
      have zbB := bB.lt
      have ebO0 := bO.cell 0
      have ebO1 := bO.cell 1
      have ebO2 := bO.cell 2
      have ebO3 := bO.cell 3
      have zbO := bO.lt
      go_wp2_with fail
      refine (hNs.out _ _ _ OX.rd).mono ?_
      rintro e w11 ⟨A7, c7, rfl, own, hb⟩
      clear ebB0 ebB1 ebB2 ebB3 zbB ebO0 ebO1 ebO2 ebO3 zbO
      replace OX := OX.all hb
      replace OY := OY.all hb
      replace OO := OO.all hb
      replace ON := ON.all hb
      replace bB := bB.all hb
      replace bO := bO.all hb
      replace R := R.all hb HB.size
      have OM := own.mono HB.size
      clear own
      replace HB := HB.trans (hb.mono HB.size)
      clear hb
      clear hNi hNs
      have ebB0 := bB.cell 0
      have ebB1 := bB.cell 1
      have ebB2 := bB.cell 2
      have ebB3 := bB.cell 3
      have zbB := bB.lt
      have ebO0 := bO.cell 0
      have ebO1 := bO.cell 1
      have ebO2 := bO.cell 2
      have ebO3 := bO.cell 3
      have zbO := bO.lt
      go_wp2_with fail
      refine (rInts_low _ _ _ _ _ _ _ _ nd _ ON.rd OM.rd).mono ?_
      rintro e w12 ⟨rfl, hb⟩
      clear ebB0 ebB1 ebB2 ebB3 zbB ebO0 ebO1 ebO2 ebO3 zbO
      replace OX := OX.all hb
      replace OY := OY.all hb
      replace OO := OO.all hb
      replace ON := ON.all hb
      replace OM := OM.all hb
      replace bB := bB.all hb
      replace bO := bO.all hb
      replace R := R.all hb HB.size
      replace HB := HB.trans (hb.mono HB.size)
      clear hb
      clear OM
      obtain ⟨⟨hnl, hyx⟩, HA⟩ := HAD.out (by first | rfl | trivial)
      have HNL := Lib.hid hnl
      have HYX := Lib.hid hyx
      clear HAD hnl hyx
      go_wp2
      go_loopw [26] (fun ii wr => ∃ k : Nat, k ≤ xs.length ∧ ii = .int .i64 (k : Int) ∧ Below w12.heap.size w12 wr) (fun ii _ => xs.length - (intOf ii).toNat)
      case atStart => exact ⟨0, Nat.zero_le _, rfl, Below.refl _ _⟩
      case round =>
        obtain ⟨k, hk, rfl, hW⟩ := hrel
        by_cases hlt : k < xs.length
        · have hki : (k : Int) < (xs.length : Int) := by omega
          have hk0 : (0 : Int) ≤ (k : Int) := by omega
          have OXr := OX.all hW
          have OYr := OY.all hW
          have OOr := OO.all hW
          have ONr := ON.all hW
          have bBr := bB.all hW
          have bOr := bO.all hW
          have hzW := hW.size
          obtain ⟨b, off, a, eA, hbB, ok, HX, hc0, hc1⟩ := DyePartR_at (F := dyePartF) rfl (fun _ => rfl) (fun _ => rfl) OXr.rd hlt
          subst eA
          obtain ⟨bn, fn, z, eN, hbn, hn0, _, _, HZ⟩ := ONr.rd.at (k := k) (by have := HNL.out; omega)
          subst eN
          obtain ⟨by_, fy, y, eY, hby, hy0, _, _, HYy⟩ := OYr.rd.at (k := k) (by have := HYX.out; omega)
          subst eY
          have hkn : (k : Int) < (nd.length : Int) := by have := HNL.out; omega
          have hky : (k : Int) < (ys.length : Int) := by have := HYX.out; omega
          obtain ⟨zs, l, t, yy, hzl, hzk, hC⟩ := HA.out k a y z HX.out (by have h1 := HYy.out; have h2 : k < ys.length := (by have := HYX.out; omega); rw [List.getElem?_eq_getElem h2, ← getD_at h2, h1]) HZ.out
          have HC := Lib.hid hC
          have HZL := Lib.hid hzl
          have HZK := Lib.hid hzk
          clear hC hzl hzk
          have OXd : OwnF dyePartF wr.drew _ _ _ := OXr.drewN 1
          have OOd : Own wr.drew _ _ _ := OOr.drewN 1
          go_wp2
          obtain ⟨PO, hPO⟩ : ∃ z, w2.heap.size = z := ⟨_, rfl⟩
          rw [hPO] at bO bOr ⊢
          obtain ⟨PB, hPB⟩ : ∃ z, w1.heap.size = z := ⟨_, rfl⟩
          rw [hPB] at bB bBr ⊢
          replace hPO := Lib.hid hPO
          replace hPB := Lib.hid hPB
          clear bB bO
          have hPOr := bOr.lt
          have hPBr := bBr.lt
          refine wp_region_noPanic ?_
          refine wp_region_held_drew (S := (fun w' => w'.cell? ⟨PO, 0, none⟩ = some (.int .i64 oL) ∧ w'.cell? ⟨PO, 1, none⟩ = some (.int .i64 oT) ∧ w'.cell? ⟨PO, 2, none⟩ = some (.int .i64 0) ∧ w'.cell? ⟨PO, 3, none⟩ = some (.slice A4 out.length c4) ∧ w'.cell? ⟨b, off + k * 2, none⟩ = some (.string a.f0) ∧ w'.cell? ⟨bn, fn + k, none⟩ = some (.int .i64 z))) (by kernel_rfl) (by exact ⟨bOr.cell 0, bOr.cell 1, bOr.cell 2, bOr.cell 3, hc0, hn0⟩) (fun hHeld => ?_)
          refine wpAnyH_take (i := 0) (v := ?_) rfl (by kernel_rfl) (by kernel_rfl) (by kernel_rfl) (fun _ _ _ h => h) (Or.inl ⟨by rfl, ?_⟩) (by assumption) ?_
          rotate_left
          · intro w hSw; (try dsimp only at hSw); go_simp; (try with_reducible rfl)
          (try simp only [Act.put, List.getElem_toArray, List.getElem_cons_zero, List.setIfInBounds_toArray, List.set_cons_zero, List.set_cons_succ])
          refine wpAnyH_take (i := 1) (v := ?_) rfl (by kernel_rfl) (by kernel_rfl) (by kernel_rfl) (fun _ _ _ h => h) (Or.inl ⟨by rfl, ?_⟩) (by assumption) ?_
          rotate_left
          · intro w hSw; (try dsimp only at hSw); go_simp; (try with_reducible rfl)
          (try simp only [Act.put, List.getElem_toArray, List.getElem_cons_zero, List.getElem_cons_succ, List.setIfInBounds_toArray, List.set_cons_zero, List.set_cons_succ])
          refine wpAnyH_take (i := 2) (v := ?_) rfl (by kernel_rfl) (by kernel_rfl) (by kernel_rfl) (fun _ _ _ h => h) (Or.inl ⟨by rfl, ?_⟩) (by assumption) ?_
          rotate_left
          · intro w hSw; (try dsimp only at hSw); go_simp; (try with_reducible rfl)
          (try simp only [Act.put, List.getElem_toArray, List.getElem_cons_zero, List.getElem_cons_succ, List.setIfInBounds_toArray, List.set_cons_zero, List.set_cons_succ])
          refine wpAnyH_take (i := 3) (v := ?_) rfl (by kernel_rfl) (by kernel_rfl) (by kernel_rfl) (fun _ _ _ h => h) (Or.inl ⟨by rfl, ?_⟩) (by assumption) ?_
          rotate_left
          · intro w hSw; (try dsimp only at hSw); go_simp; (try with_reducible rfl)
          (try simp only [Act.put, List.getElem_toArray, List.getElem_cons_zero, List.getElem_cons_succ, List.setIfInBounds_toArray, List.set_cons_zero, List.set_cons_succ])
          refine wpAnyH_take (i := 4) (v := ?_) rfl (by kernel_rfl) (by kernel_rfl) (by kernel_rfl) (fun _ _ _ h => h) (Or.inl ⟨by rfl, ?_⟩) (by assumption) ?_
          rotate_left
          · intro w hSw; (try dsimp only at hSw); go_simp; (try with_reducible rfl)
          (try simp only [Act.put, List.getElem_toArray, List.getElem_cons_zero, List.getElem_cons_succ, List.setIfInBounds_toArray, List.set_cons_zero, List.set_cons_succ])
          refine wpAnyH_take (i := 5) (v := ?_) rfl (by kernel_rfl) (by kernel_rfl) (by kernel_rfl) (fun _ _ _ h => h) (Or.inl ⟨by rfl, ?_⟩) (by assumption) ?_
          rotate_left
          · intro w hSw; (try dsimp only at hSw); go_simp; (try with_reducible rfl)
          (try simp only [Act.put, List.getElem_toArray, List.getElem_cons_zero, List.getElem_cons_succ, List.setIfInBounds_toArray, List.set_cons_zero, List.set_cons_succ])
          refine wpAnyH_take (i := 6) (v := ?_) rfl (by kernel_rfl) (by kernel_rfl) (by kernel_rfl) (fun _ _ _ h => h) (Or.inl ⟨by rfl, ?_⟩) (by assumption) ?_
          rotate_left
          · intro w hSw; (try dsimp only at hSw); go_simp; (try with_reducible rfl)
          (try simp only [Act.put, List.getElem_toArray, List.getElem_cons_zero, List.getElem_cons_succ, List.setIfInBounds_toArray, List.set_cons_zero, List.set_cons_succ])
          refine wpAnyH_take (i := 7) (v := ?_) rfl (by kernel_rfl) (by kernel_rfl) (by kernel_rfl) (fun _ _ _ h => h) (Or.inl ⟨by rfl, ?_⟩) (by assumption) ?_
          rotate_left
          · intro w hSw; (try dsimp only at hSw); go_simp; (try with_reducible rfl)
          (try simp only [Act.put, List.getElem_toArray, List.getElem_cons_zero, List.getElem_cons_succ, List.setIfInBounds_toArray, List.set_cons_zero, List.set_cons_succ])
          refine wpAnyH_take (i := 8) (v := ?_) rfl (by kernel_rfl) (by kernel_rfl) (by kernel_rfl) (fun _ _ _ h => h) (Or.inl ⟨by rfl, ?_⟩) (by assumption) ?_
          rotate_left
          · intro w hSw; (try dsimp only at hSw); go_simp; (try with_reducible rfl)
          (try simp only [Act.put, List.getElem_toArray, List.getElem_cons_zero, List.getElem_cons_succ, List.setIfInBounds_toArray, List.set_cons_zero, List.set_cons_succ])
          refine wpAnyH_take (i := 9) (v := ?_) rfl (by kernel_rfl) (by kernel_rfl) (by kernel_rfl) (fun _ _ _ h => h) (Or.inl ⟨by rfl, ?_⟩) (by assumption) ?_
          rotate_left
          · intro w hSw; (try dsimp only at hSw); go_simp; (try with_reducible rfl)
          (try simp only [Act.put, List.getElem_toArray, List.getElem_cons_zero, List.getElem_cons_succ, List.setIfInBounds_toArray, List.set_cons_zero, List.set_cons_succ])
          refine wpAnyH_take (i := 10) (v := ?_) rfl (by kernel_rfl) (by kernel_rfl) (by kernel_rfl) (fun _ _ _ h => h) (Or.inl ⟨by rfl, ?_⟩) (by assumption) ?_
          rotate_left
          · intro w hSw; (try dsimp only at hSw); go_simp; (try with_reducible rfl)
          (try simp only [Act.put, List.getElem_toArray, List.getElem_cons_zero, List.getElem_cons_succ, List.setIfInBounds_toArray, List.set_cons_zero, List.set_cons_succ])
          refine wpAnyH_ready (rs := [11, 15]) (by kernel_rfl) (by simp) ?_
          refine AllReadyH.cons rfl (fun K hK => ?_) ?_
          · skip
            go_simp
            (with_reducible refine (HC.out _ _ _ _ _ OXd.rd OOd.rd).mono ?_)
            rintro e w60 ⟨A8, c8, rfl, OZ, hb⟩
            replace hb := below_drew' hb
            replace hc0 := cells_of hb hc0 hbB
            replace hn0 := cells_of hb hn0 hbn
            replace hy0 := cells_of hb hy0 hby
            replace bBr := bBr.all hb
            replace bOr := bOr.all hb
            have hW6 := hW.trans (hb.mono hzW)
            have hz6 := hW6.size
            refine hK.out _ _ (by exact ⟨bOr.cell 0, bOr.cell 1, bOr.cell 2, bOr.cell 3, hc0, hn0⟩) (fun hHeld => ?_)
            clear hK K
            (try simp only [Act.put, List.getElem_toArray, List.getElem_cons_zero, List.getElem_cons_succ, List.setIfInBounds_toArray, List.set_cons_zero, List.set_cons_succ])
            refine wpAnyH_take (i := 12) (v := ?_) rfl (by kernel_rfl) (by kernel_rfl) (by kernel_rfl) (fun _ _ _ h => h) (Or.inl ⟨by rfl, ?_⟩) (by assumption) ?_
            rotate_left
            · intro w hSw; (try dsimp only at hSw); go_simp; (try with_reducible rfl)
            (try simp only [Act.put, List.getElem_toArray, List.getElem_cons_zero, List.getElem_cons_succ, List.setIfInBounds_toArray, List.set_cons_zero, List.set_cons_succ])
            refine wpAnyH_take (i := 13) (v := ?_) rfl (by kernel_rfl) (by kernel_rfl) (by kernel_rfl) (fun _ _ _ h => h) (Or.inl ⟨by rfl, ?_⟩) (by assumption) ?_
            rotate_left
            · intro w hSw; (try dsimp only at hSw); go_simp; (try with_reducible rfl)
            (try simp only [Act.put, List.getElem_toArray, List.getElem_cons_zero, List.getElem_cons_succ, List.setIfInBounds_toArray, List.set_cons_zero, List.set_cons_succ])
            refine wpAnyH_take (i := 14) (v := ?_) rfl (by kernel_rfl) (by kernel_rfl) (by kernel_rfl) (fun _ _ _ h => h) (Or.inl ⟨by rfl, ?_⟩) (by assumption) ?_
            rotate_left
            · intro w hSw; (try dsimp only at hSw); go_simp; (try with_reducible rfl)
            (try simp only [Act.put, List.getElem_toArray, List.getElem_cons_zero, List.getElem_cons_succ, List.setIfInBounds_toArray, List.set_cons_zero, List.set_cons_succ])
            refine wpAnyH_ready (rs := [15]) (by kernel_rfl) (by simp) ?_
            refine AllReadyH.cons rfl (fun K hK => ?_) AllReadyH.nil
            go_simp
            have obz := (Below.refl w60.heap.size w60).alloc (Nat.le_refl _) (.cells #[.int .i64 0, .int .i64 0, .int .i64 0, .slice none 0 0] 27)
            have hbA := cells_of obz hc0 (Nat.lt_of_lt_of_le hbB hb.size)
            have hbN := cells_of obz hn0 (Nat.lt_of_lt_of_le hbn hb.size)
            have bOz := bOr.all obz
            refine hK.out _ _ (by exact ⟨bOz.cell 0, bOz.cell 1, bOz.cell 2, bOz.cell 3, hbA, hbN⟩) (fun hHeld => ?_)
            clear hK K
            (try simp only [Act.put, List.getElem_toArray, List.getElem_cons_zero, List.getElem_cons_succ, List.setIfInBounds_toArray, List.set_cons_zero, List.set_cons_succ])
            refine wpAnyH_ready (rs := [16]) (by kernel_rfl) (by simp) ?_
            refine AllReadyH.cons rfl (fun K hK => ?_) AllReadyH.nil
            go_simp
            have obv := (Below.refl w60.heap.size w60).alloc (Nat.le_refl _) (.cells #[.int .i64 l, .int .i64 t, .int .i64 yy, .slice A8 zs.length c8] 27)
            have hvA := cells_of obv hc0 (Nat.lt_of_lt_of_le hbB hb.size)
            have hvN := cells_of obv hn0 (Nat.lt_of_lt_of_le hbn hb.size)
            have bOv := bOr.all obv
            refine hK.out _ _ (by exact ⟨bOv.cell 0, bOv.cell 1, bOv.cell 2, bOv.cell 3, hvA, hvN⟩) (fun hHeld => ?_)
            clear hK K
            (try simp only [Act.put, List.getElem_toArray, List.getElem_cons_zero, List.getElem_cons_succ, List.setIfInBounds_toArray, List.set_cons_zero, List.set_cons_succ])
            refine wpAnyH_take (i := 17) (v := ?_) rfl (by kernel_rfl) (by kernel_rfl) (by kernel_rfl) (fun _ _ _ h => h) (Or.inl ⟨by rfl, ?_⟩) (by assumption) ?_
            rotate_left
            · intro w hSw; (try dsimp only at hSw); go_simp; (try with_reducible rfl)
            (try simp only [Act.put, List.getElem_toArray, List.getElem_cons_zero, List.getElem_cons_succ, List.setIfInBounds_toArray, List.set_cons_zero, List.set_cons_succ])
            refine wpAnyH_done (by kernel_rfl) ?_ _
            refine NoPanic.normal ?_
            have BZf := Blk.new w60 #[.int .i64 l, .int .i64 t, .int .i64 yy, .slice A8 zs.length c8] 27
            have OZf := OZ.all obv
            have bBf := bBr.all obv
            have hyf := cells_of obv hy0 (Nat.lt_of_lt_of_le hby hb.size)
            have hWf := Lib.hid (hW6.trans (obv.mono hz6))
            obtain ⟨gz, oz, z0, eZ, _, hz0, _, _, HZ0⟩ := OZf.rd.at (k := k) (by have := HZL.out; omega)
            subst eZ
            obtain rfl : y = z0 := by rw [← HZK.out, HZ0.out]
            have x3 := BZf.cell 3
            have b3 := bBf.cell 3
            have hkz : (k : Int) < (zs.length : Int) := by have := HZL.out; omega
            have hll : ((zs.length : Int) != (xs.length : Int)) = false := by rw [HZL.out]; simp
            have hll2 : ((zs.length : Int) == (xs.length : Int)) = true := by rw [HZL.out]; simp
            clear hc0 hn0 hy0 bBr bOr OZ hb
            go_wp2
            go_quiet (fail)
            go_wp2
            have hPO1 := hPO.out
            have hPB1 := hPB.out
            clear hPO hPB
            subst hPO1
            subst hPB1
            go_roundw
            case rel => exact ⟨k + 1, by omega, by go_num, by first | exact hWf.out | exact belowD hWf.out | exact belowN hWf.out _⟩
            case measure => simp [intOf]; omega
          refine AllReadyH.cons rfl (fun K hK => ?_) AllReadyH.nil
          go_simp
          have obz := (Below.refl wr.heap.size wr.drew).alloc (Nat.le_refl wr.heap.size) (.cells #[.int .i64 0, .int .i64 0, .int .i64 0, .slice none 0 0] 27)
          have BZ := Blk.new wr.drew #[.int .i64 0, .int .i64 0, .int .i64 0, .slice none 0 0] 27
          replace hc0 := cells_of obz hc0 hbB
          replace hn0 := cells_of obz hn0 hbn
          replace hy0 := cells_of obz hy0 hby
          have bBd : Blk wr.drew _ _ _ := bBr
          have bOd : Blk wr.drew _ _ _ := bOr
          replace bBr := bBd.all obz
          replace bOr := bOd.all obz
          clear bBd bOd
          replace OXd := OXd.all obz
          replace OOd := OOd.all obz
          have hWA := (belowD hW).trans (obz.mono hzW)
          clear obz
          try rw [show (wr.alloc (.cells #[.int .i64 0, .int .i64 0, .int .i64 0, .slice none 0 0] 27)).drew = wr.drew.alloc (.cells #[.int .i64 0, .int .i64 0, .int .i64 0, .slice none 0 0] 27) from rfl]
          obtain ⟨wA, hwA⟩ : ∃ v, wr.drew.alloc (.cells #[.int .i64 0, .int .i64 0, .int .i64 0, .slice none 0 0] 27) = v := ⟨_, rfl⟩
          have hzA : wr.heap.size < wA.heap.size := by rw [← hwA]; simp
          have eQ : wr.drew.heap.size = wr.heap.size := rfl
          rw [eQ] at BZ
          rw [hwA] at BZ hc0 hn0 hy0 bBr bOr OXd OOd hWA ⊢
          clear hwA eQ
          refine hK.out _ _ (by exact ⟨bOr.cell 0, bOr.cell 1, bOr.cell 2, bOr.cell 3, hc0, hn0⟩) (fun hHeld => ?_)
          clear hK K
          (try simp only [Act.put, List.getElem_toArray, List.getElem_cons_zero, List.getElem_cons_succ, List.setIfInBounds_toArray, List.set_cons_zero, List.set_cons_succ])
          refine wpAnyH_ready (rs := [11]) (by kernel_rfl) (by simp) ?_
          refine AllReadyH.cons rfl (fun K hK => ?_) AllReadyH.nil
          go_simp
          (with_reducible refine (HC.out _ _ _ _ _ OXd.rd OOd.rd).mono ?_)
          rintro e w60 ⟨A8, c8, rfl, OZ, hb⟩
          replace hc0 := cells_of hb hc0 (Nat.lt_trans hbB hzA)
          replace hn0 := cells_of hb hn0 (Nat.lt_trans hbn hzA)
          replace hy0 := cells_of hb hy0 (Nat.lt_trans hby hzA)
          replace bBr := bBr.all hb
          replace bOr := bOr.all hb
          have hW6 := hWA.trans (hb.mono hWA.size)
          replace BZ := BZ.all hb
          have u0 := BZ.cell 0
          have u1 := BZ.cell 1
          have u2 := BZ.cell 2
          have u3 := BZ.cell 3
          have g0 := BZ.frozen 0
          have g1 := BZ.frozen 1
          have g2 := BZ.frozen 2
          have g3 := BZ.frozen 3
          refine hK.out _ _ (by exact ⟨bOr.cell 0, bOr.cell 1, bOr.cell 2, bOr.cell 3, hc0, hn0⟩) (fun hHeld => ?_)
          clear hK K
          (try simp only [Act.put, List.getElem_toArray, List.getElem_cons_zero, List.getElem_cons_succ, List.setIfInBounds_toArray, List.set_cons_zero, List.set_cons_succ])
          refine wpAnyH_take (i := 12) (v := ?_) rfl (by kernel_rfl) (by kernel_rfl) (by kernel_rfl) (fun _ _ _ h => h) (Or.inl ⟨by rfl, ?_⟩) (by assumption) ?_
          rotate_left
          · intro w hSw; (try dsimp only at hSw); go_simp; (try with_reducible rfl)
          (try simp only [Act.put, List.getElem_toArray, List.getElem_cons_zero, List.getElem_cons_succ, List.setIfInBounds_toArray, List.set_cons_zero, List.set_cons_succ])
          refine wpAnyH_take (i := 13) (v := ?_) rfl (by kernel_rfl) (by kernel_rfl) (by kernel_rfl) (fun _ _ _ h => h) (Or.inl ⟨by rfl, ?_⟩) (by assumption) ?_
          rotate_left
          · intro w hSw; (try dsimp only at hSw); go_simp; (try with_reducible rfl)
          (try simp only [Act.put, List.getElem_toArray, List.getElem_cons_zero, List.getElem_cons_succ, List.setIfInBounds_toArray, List.set_cons_zero, List.set_cons_succ])
          refine wpAnyH_take (i := 14) (v := ?_) rfl (by kernel_rfl) (by kernel_rfl) (by kernel_rfl) (fun _ _ _ h => h) (Or.inl ⟨by rfl, ?_⟩) (by assumption) ?_
          rotate_left
          · intro w hSw; (try dsimp only at hSw); go_simp; (try with_reducible rfl)
          (try simp only [Act.put, List.getElem_toArray, List.getElem_cons_zero, List.getElem_cons_succ, List.setIfInBounds_toArray, List.set_cons_zero, List.set_cons_succ])
          refine wpAnyH_ready (rs := [16]) (by kernel_rfl) (by simp) ?_
          refine AllReadyH.cons rfl (fun K hK => ?_) AllReadyH.nil
          go_simp
          have hbQ := ((((Below.refl wr.heap.size w60).setCell (p := ⟨wr.heap.size, 0, none⟩) (Nat.le_refl _) (.int .i64 l)).setCell (p := ⟨wr.heap.size, 1, none⟩) (Nat.le_refl _) (.int .i64 t)).setCell (p := ⟨wr.heap.size, 2, none⟩) (Nat.le_refl _) (.int .i64 yy)).setCell (p := ⟨wr.heap.size, 3, none⟩) (Nat.le_refl _) (.slice A8 zs.length c8)
          have hvA := cells_of hbQ hc0 hbB
          have hvN := cells_of hbQ hn0 hbn
          have bOv := bOr.below hbQ hPOr
          refine hK.out _ _ (by exact ⟨bOv.cell 0, bOv.cell 1, bOv.cell 2, bOv.cell 3, hvA, hvN⟩) (fun hHeld => ?_)
          clear hK K
          (try simp only [Act.put, List.getElem_toArray, List.getElem_cons_zero, List.getElem_cons_succ, List.setIfInBounds_toArray, List.set_cons_zero, List.set_cons_succ])
          refine wpAnyH_take (i := 17) (v := ?_) rfl (by kernel_rfl) (by kernel_rfl) (by kernel_rfl) (fun _ _ _ h => h) (Or.inl ⟨by rfl, ?_⟩) (by assumption) ?_
          rotate_left
          · intro w hSw; (try dsimp only at hSw); go_simp; (try with_reducible rfl)
          (try simp only [Act.put, List.getElem_toArray, List.getElem_cons_zero, List.getElem_cons_succ, List.setIfInBounds_toArray, List.set_cons_zero, List.set_cons_succ])
          refine wpAnyH_done (by kernel_rfl) ?_ _
          refine NoPanic.normal ?_
          clear u0 u1 u2 u3 g0 g1 g2 g3
          have BZf := BZ.put4t (a' := .int .i64 l) (b' := .int .i64 t) (c' := .int .i64 yy) (d' := .slice A8 zs.length c8)
          have OZf := (((OZ.far (a := ⟨wr.heap.size, 0, none⟩) (row_ne' OZ.1 BZ (by decide)) (.int .i64 l)).far (a := ⟨wr.heap.size, 1, none⟩) (row_ne' OZ.1 BZ (by decide)) (.int .i64 t)).far (a := ⟨wr.heap.size, 2, none⟩) (row_ne' OZ.1 BZ (by decide)) (.int .i64 yy)).far (a := ⟨wr.heap.size, 3, none⟩) (row_ne' OZ.1 BZ (by decide)) (.slice A8 zs.length c8)
          have bBf := bBr.below hbQ hPBr
          have hyf := cells_of hbQ hy0 hby
          have hWf := Lib.hid ((((hW6.setCell (p := ⟨wr.heap.size, 0, none⟩) hzW (.int .i64 l)).setCell (p := ⟨wr.heap.size, 1, none⟩) hzW (.int .i64 t)).setCell (p := ⟨wr.heap.size, 2, none⟩) hzW (.int .i64 yy)).setCell (p := ⟨wr.heap.size, 3, none⟩) hzW (.slice A8 zs.length c8))
          obtain ⟨gz, oz, z0, eZ, _, hz0, _, _, HZ0⟩ := OZf.rd.at (k := k) (by have := HZL.out; omega)
          subst eZ
          obtain rfl : y = z0 := by rw [← HZK.out, HZ0.out]
          have x3 := BZf.cell 3
          have b3 := bBf.cell 3
          have hkz : (k : Int) < (zs.length : Int) := by have := HZL.out; omega
          have hll : ((zs.length : Int) != (xs.length : Int)) = false := by rw [HZL.out]; simp
          have hll2 : ((zs.length : Int) == (xs.length : Int)) = true := by rw [HZL.out]; simp
          clear hc0 hn0 hy0 bBr bOr OZ hb
          go_wp2
          go_quiet (fail)
          go_wp2
          have hPO1 := hPO.out
          have hPB1 := hPB.out
          clear hPO hPB
          subst hPO1
          subst hPB1
          go_roundw
          case rel => exact ⟨k + 1, by omega, by go_num, by first | exact hWf.out | exact belowD hWf.out | exact belowN hWf.out _⟩
          case measure => simp [intOf]; omega
        · obtain rfl : k = xs.length := by omega
          clear HA HNL HYX hlt
          replace OX := OX.all hW
          replace OY := OY.all hW
          replace OO := OO.all hW
          replace ON := ON.all hW
          replace bB := bB.all hW
          replace bO := bO.all hW
          replace R := R.all hW HB.size
          replace HB := HB.trans (hW.mono HB.size)
          clear hW
          clear ON OO bO
          clear OX OY bB
          go_wp2_with fail
          refine (drawAddStuff_any A n c w.heap.size _ R HB.size hn).mono ?_
          rintro e w13 ⟨B2, d2, ps, l, u, v, B3, d3, rs, s, z9, rfl, ⟨hpl, hrl, hl, hu, hv, hs, hz9⟩, own, own2, hb⟩
          replace R := R.all hb HB.size
          have PX := own.mono HB.size
          clear own
          have PY := own2.mono HB.size
          clear own2
          replace HB := HB.trans (hb.mono HB.size)
          clear hb
          replace PX := PX.alloc (.cells #[.int .i64 l, .int .i64 u, .int .i64 v, .slice B3 rs.length d3] 27)
          replace PY := PY.alloc (.cells #[.int .i64 l, .int .i64 u, .int .i64 v, .slice B3 rs.length d3] 27)
          replace R := R.alloc HB.size (.cells #[.int .i64 l, .int .i64 u, .int .i64 v, .slice B3 rs.length d3] 27)
          have bP := Blk.new w13 #[.int .i64 l, .int .i64 u, .int .i64 v, .slice B3 rs.length d3] 27
          replace HB := HB.alloc HB.size (.cells #[.int .i64 l, .int .i64 u, .int .i64 v, .slice B3 rs.length d3] 27)
          obtain ⟨aL, haL⟩ : ∃ z, addN ps l u v rs s z9 l = z := ⟨_, rfl⟩
          obtain ⟨aT, haT⟩ : ∃ z, addN ps l u v rs s z9 u = z := ⟨_, rfl⟩
          obtain ⟨aY, haY⟩ : ∃ z, addN ps l u v rs s z9 v = z := ⟨_, rfl⟩
          obtain ⟨ao, hao⟩ : ∃ z, addL ps l u v rs s z9 = z := ⟨_, rfl⟩
          obtain ⟨ab, hab⟩ : ∃ z, addB ps l u v rs s z9 = z := ⟨_, rfl⟩
          have hAi : Hid (∀ (w : World) (A : Option Addr) (c : Nat) (A' : Option Addr) (c' : Nat), RdF dyePartF w w.heap.size A ps.length c ps → Rd w w.heap.size A' rs.length c' rs → Calls Try.prog 17 #[.slice A ps.length c, bathV l u v (.slice A' rs.length c'), .string s, .int .i64 z9] w (OutBath w aL aT aY ao ab)) := Lib.hid fun w A c A' c' h h' => (by have := implAddStuff_any A _ c _ ps l u v A' _ c' _ rs s z9 w h (Nat.le_refl _) h' (Nat.le_refl _); rw [haL, haT, haY, hao, hab] at this; exact this)
          have hAs : Hid (∀ (w : World) (A : Option Addr) (c : Nat) (A' : Option Addr) (c' : Nat), RdF dyePartF w w.heap.size A ps.length c ps → Rd w w.heap.size A' rs.length c' rs → Calls Try.prog 19 #[.slice A ps.length c, bathV l u v (.slice A' rs.length c'), .string s, .int .i64 z9] w (OutBath w aL aT aY ao ab)) := Lib.hid fun w A c A' c' h h' => (by have := specAddStuff_any A _ c _ ps l u v A' _ c' _ rs s z9 w h (Nat.le_refl _) h' (Nat.le_refl _); rw [haL, haT, haY, hao, hab] at this; exact this)
          clear haL haT haY hao hab
          have ebP0 := bP.cell 0
          have ebP1 := bP.cell 1
          have ebP2 := bP.cell 2
          have ebP3 := bP.cell 3
          have zbP := bP.lt
          go_wp2_with fail
          refine (hAi.out _ _ _ _ _ PX.rd PY.rd).mono ?_
          rintro e w14 ⟨B4, d4, rfl, own, hb⟩
          clear ebP0 ebP1 ebP2 ebP3 zbP
          replace PX := PX.all hb
          replace PY := PY.all hb
          replace bP := bP.all hb
          replace R := R.all hb HB.size
          have QO := own.mono HB.size
          clear own
          replace HB := HB.trans (hb.mono HB.size)
          clear hb
          replace PX := PX.alloc (.cells #[.int .i64 aL, .int .i64 aT, .int .i64 aY, .slice B4 ao.length d4] 27)
          replace PY := PY.alloc (.cells #[.int .i64 aL, .int .i64 aT, .int .i64 aY, .slice B4 ao.length d4] 27)
          replace QO := QO.alloc (.cells #[.int .i64 aL, .int .i64 aT, .int .i64 aY, .slice B4 ao.length d4] 27)
          replace bP := bP.alloc (.cells #[.int .i64 aL, .int .i64 aT, .int .i64 aY, .slice B4 ao.length d4] 27)
          replace R := R.alloc HB.size (.cells #[.int .i64 aL, .int .i64 aT, .int .i64 aY, .slice B4 ao.length d4] 27)
          have bQ := Blk.new w14 #[.int .i64 aL, .int .i64 aT, .int .i64 aY, .slice B4 ao.length d4] 27
          replace HB := HB.alloc HB.size (.cells #[.int .i64 aL, .int .i64 aT, .int .i64 aY, .slice B4 ao.length d4] 27)
          have ebP0 := bP.cell 0
          have ebP1 := bP.cell 1
          have ebP2 := bP.cell 2
          have ebP3 := bP.cell 3
          have zbP := bP.lt
          have ebQ0 := bQ.cell 0
          have ebQ1 := bQ.cell 1
          have ebQ2 := bQ.cell 2
          have ebQ3 := bQ.cell 3
          have zbQ := bQ.lt
          go_wp2_with fail
          refine (hAs.out _ _ _ _ _ PX.rd PY.rd).mono ?_
          rintro e w15 ⟨B5, d5, rfl, own, hb⟩
          clear ebP0 ebP1 ebP2 ebP3 zbP ebQ0 ebQ1 ebQ2 ebQ3 zbQ
          replace PX := PX.all hb
          replace PY := PY.all hb
          replace QO := QO.all hb
          replace bP := bP.all hb
          replace bQ := bQ.all hb
          replace R := R.all hb HB.size
          have QW := own.mono HB.size
          clear own
          replace HB := HB.trans (hb.mono HB.size)
          clear hb
          replace PX := PX.alloc (.cells #[.int .i64 aL, .int .i64 aT, .int .i64 aY, .slice B5 ao.length d5] 27)
          replace PY := PY.alloc (.cells #[.int .i64 aL, .int .i64 aT, .int .i64 aY, .slice B5 ao.length d5] 27)
          replace QO := QO.alloc (.cells #[.int .i64 aL, .int .i64 aT, .int .i64 aY, .slice B5 ao.length d5] 27)
          replace QW := QW.alloc (.cells #[.int .i64 aL, .int .i64 aT, .int .i64 aY, .slice B5 ao.length d5] 27)
          replace bP := bP.alloc (.cells #[.int .i64 aL, .int .i64 aT, .int .i64 aY, .slice B5 ao.length d5] 27)
          replace bQ := bQ.alloc (.cells #[.int .i64 aL, .int .i64 aT, .int .i64 aY, .slice B5 ao.length d5] 27)
          replace R := R.alloc HB.size (.cells #[.int .i64 aL, .int .i64 aT, .int .i64 aY, .slice B5 ao.length d5] 27)
          have bR := Blk.new w15 #[.int .i64 aL, .int .i64 aT, .int .i64 aY, .slice B5 ao.length d5] 27
          replace HB := HB.alloc HB.size (.cells #[.int .i64 aL, .int .i64 aT, .int .i64 aY, .slice B5 ao.length d5] 27)
          clear hAi hAs
          have ebP0 := bP.cell 0
          have ebP1 := bP.cell 1
          have ebP2 := bP.cell 2
          have ebP3 := bP.cell 3
          have zbP := bP.lt
          have ebQ0 := bQ.cell 0
          have ebQ1 := bQ.cell 1
          have ebQ2 := bQ.cell 2
          have ebQ3 := bQ.cell 3
          have zbQ := bQ.lt
          have ebR0 := bR.cell 0
          have ebR1 := bR.cell 1
          have ebR2 := bR.cell 2
          have ebR3 := bR.cell 3
          have zbR := bR.lt
          go_wp2_with fail
          refine (rBath_same aL aT aY _ _ _ _ _ _ _ _ ao _ QO.rd QW.rd (Nat.le_refl _) (Nat.le_refl _)).mono ?_
          rintro e w16 ⟨rfl, hb⟩
          clear ebP0 ebP1 ebP2 ebP3 zbP ebQ0 ebQ1 ebQ2 ebQ3 zbQ ebR0 ebR1 ebR2 ebR3 zbR
          replace PX := PX.all hb
          replace PY := PY.all hb
          replace QO := QO.all hb
          replace QW := QW.all hb
          replace bP := bP.all hb
          replace bQ := bQ.all hb
          replace bR := bR.all hb
          replace R := R.all hb HB.size
          replace HB := HB.trans (hb.mono HB.size)
          clear hb
          go_wp2
          go_ret
          exact ⟨ret_bool (by simp), HB⟩
  case false =>
    clear HDM HAD
    cases tb
    case false =>
      clear HMF
      have ebB0 := bB.cell 0
      have ebB1 := bB.cell 1
      have ebB2 := bB.cell 2
      have ebB3 := bB.cell 3
      have zbB := bB.lt
      have ebO0 := bO.cell 0
      have ebO1 := bO.cell 1
      have ebO2 := bO.cell 2
      have ebO3 := bO.cell 3
      have zbO := bO.lt
      go_wp2_with fail
      refine (hNi.out _ _ _ OX.rd).mono ?_
      rintro e w10 ⟨A6, c6, rfl, own, hb⟩
      clear ebB0 ebB1 ebB2 ebB3 zbB ebO0 ebO1 ebO2 ebO3 zbO
      replace OX := OX.all hb
      replace OY := OY.all hb
      replace OO := OO.all hb
      replace bB := bB.all hb
      replace bO := bO.all hb
      replace R := R.all hb HB.size
      have ON := own.mono HB.size
      clear own
      replace HB := HB.trans (hb.mono HB.size)
      clear hb
      have ebB0 := bB.cell 0
      have ebB1 := bB.cell 1
      have ebB2 := bB.cell 2
      have ebB3 := bB.cell 3
      have zbB := bB.lt
      have ebO0 := bO.cell 0
      have ebO1 := bO.cell 1
      have ebO2 := bO.cell 2
      have ebO3 := bO.cell 3
      have zbO := bO.lt
      go_wp2_with fail
      refine (hNs.out _ _ _ OX.rd).mono ?_
      rintro e w11 ⟨A7, c7, rfl, own, hb⟩
      clear ebB0 ebB1 ebB2 ebB3 zbB ebO0 ebO1 ebO2 ebO3 zbO
      replace OX := OX.all hb
      replace OY := OY.all hb
      replace OO := OO.all hb
      replace ON := ON.all hb
      replace bB := bB.all hb
      replace bO := bO.all hb
      replace R := R.all hb HB.size
      have OM := own.mono HB.size
      clear own
      replace HB := HB.trans (hb.mono HB.size)
      clear hb
      clear hNi hNs
      have ebB0 := bB.cell 0
      have ebB1 := bB.cell 1
      have ebB2 := bB.cell 2
      have ebB3 := bB.cell 3
      have zbB := bB.lt
      have ebO0 := bO.cell 0
      have ebO1 := bO.cell 1
      have ebO2 := bO.cell 2
      have ebO3 := bO.cell 3
      have zbO := bO.lt
      go_wp2_with fail
      refine (rInts_low _ _ _ _ _ _ _ _ nd _ ON.rd OM.rd).mono ?_
      rintro e w12 ⟨rfl, hb⟩
      clear ebB0 ebB1 ebB2 ebB3 zbB ebO0 ebO1 ebO2 ebO3 zbO
      replace OX := OX.all hb
      replace OY := OY.all hb
      replace OO := OO.all hb
      replace ON := ON.all hb
      replace OM := OM.all hb
      replace bB := bB.all hb
      replace bO := bO.all hb
      replace R := R.all hb HB.size
      replace HB := HB.trans (hb.mono HB.size)
      clear hb
      clear OM
      clear ON OO bO
      go_wp2
      go_loopw [26] (fun ii wr => ii = .int .i64 0 ∧ wr = w12) (fun _ _ => 0)
      case atStart => exact ⟨rfl, rfl⟩
      case round =>
        obtain ⟨rfl, hw⟩ := hrel
        subst hw
        by_cases hxn : (0 : Int) < (xs.length : Int)
        · skip
          clear OX OY bB
          go_wp2_with fail
          refine (drawAddStuff_any A n c w.heap.size _ R HB.size hn).mono ?_
          rintro e w13 ⟨B2, d2, ps, l, u, v, B3, d3, rs, s, z9, rfl, ⟨hpl, hrl, hl, hu, hv, hs, hz9⟩, own, own2, hb⟩
          replace R := R.all hb HB.size
          have PX := own.mono HB.size
          clear own
          have PY := own2.mono HB.size
          clear own2
          replace HB := HB.trans (hb.mono HB.size)
          clear hb
          replace PX := PX.alloc (.cells #[.int .i64 l, .int .i64 u, .int .i64 v, .slice B3 rs.length d3] 27)
          replace PY := PY.alloc (.cells #[.int .i64 l, .int .i64 u, .int .i64 v, .slice B3 rs.length d3] 27)
          replace R := R.alloc HB.size (.cells #[.int .i64 l, .int .i64 u, .int .i64 v, .slice B3 rs.length d3] 27)
          have bP := Blk.new w13 #[.int .i64 l, .int .i64 u, .int .i64 v, .slice B3 rs.length d3] 27
          replace HB := HB.alloc HB.size (.cells #[.int .i64 l, .int .i64 u, .int .i64 v, .slice B3 rs.length d3] 27)
          obtain ⟨aL, haL⟩ : ∃ z, addN ps l u v rs s z9 l = z := ⟨_, rfl⟩
          obtain ⟨aT, haT⟩ : ∃ z, addN ps l u v rs s z9 u = z := ⟨_, rfl⟩
          obtain ⟨aY, haY⟩ : ∃ z, addN ps l u v rs s z9 v = z := ⟨_, rfl⟩
          obtain ⟨ao, hao⟩ : ∃ z, addL ps l u v rs s z9 = z := ⟨_, rfl⟩
          obtain ⟨ab, hab⟩ : ∃ z, addB ps l u v rs s z9 = z := ⟨_, rfl⟩
          have hAi : Hid (∀ (w : World) (A : Option Addr) (c : Nat) (A' : Option Addr) (c' : Nat), RdF dyePartF w w.heap.size A ps.length c ps → Rd w w.heap.size A' rs.length c' rs → Calls Try.prog 17 #[.slice A ps.length c, bathV l u v (.slice A' rs.length c'), .string s, .int .i64 z9] w (OutBath w aL aT aY ao ab)) := Lib.hid fun w A c A' c' h h' => (by have := implAddStuff_any A _ c _ ps l u v A' _ c' _ rs s z9 w h (Nat.le_refl _) h' (Nat.le_refl _); rw [haL, haT, haY, hao, hab] at this; exact this)
          have hAs : Hid (∀ (w : World) (A : Option Addr) (c : Nat) (A' : Option Addr) (c' : Nat), RdF dyePartF w w.heap.size A ps.length c ps → Rd w w.heap.size A' rs.length c' rs → Calls Try.prog 19 #[.slice A ps.length c, bathV l u v (.slice A' rs.length c'), .string s, .int .i64 z9] w (OutBath w aL aT aY ao ab)) := Lib.hid fun w A c A' c' h h' => (by have := specAddStuff_any A _ c _ ps l u v A' _ c' _ rs s z9 w h (Nat.le_refl _) h' (Nat.le_refl _); rw [haL, haT, haY, hao, hab] at this; exact this)
          clear haL haT haY hao hab
          have ebP0 := bP.cell 0
          have ebP1 := bP.cell 1
          have ebP2 := bP.cell 2
          have ebP3 := bP.cell 3
          have zbP := bP.lt
          go_wp2_with fail
          refine (hAi.out _ _ _ _ _ PX.rd PY.rd).mono ?_
          rintro e w14 ⟨B4, d4, rfl, own, hb⟩
          clear ebP0 ebP1 ebP2 ebP3 zbP
          replace PX := PX.all hb
          replace PY := PY.all hb
          replace bP := bP.all hb
          replace R := R.all hb HB.size
          have QO := own.mono HB.size
          clear own
          replace HB := HB.trans (hb.mono HB.size)
          clear hb
          replace PX := PX.alloc (.cells #[.int .i64 aL, .int .i64 aT, .int .i64 aY, .slice B4 ao.length d4] 27)
          replace PY := PY.alloc (.cells #[.int .i64 aL, .int .i64 aT, .int .i64 aY, .slice B4 ao.length d4] 27)
          replace QO := QO.alloc (.cells #[.int .i64 aL, .int .i64 aT, .int .i64 aY, .slice B4 ao.length d4] 27)
          replace bP := bP.alloc (.cells #[.int .i64 aL, .int .i64 aT, .int .i64 aY, .slice B4 ao.length d4] 27)
          replace R := R.alloc HB.size (.cells #[.int .i64 aL, .int .i64 aT, .int .i64 aY, .slice B4 ao.length d4] 27)
          have bQ := Blk.new w14 #[.int .i64 aL, .int .i64 aT, .int .i64 aY, .slice B4 ao.length d4] 27
          replace HB := HB.alloc HB.size (.cells #[.int .i64 aL, .int .i64 aT, .int .i64 aY, .slice B4 ao.length d4] 27)
          have ebP0 := bP.cell 0
          have ebP1 := bP.cell 1
          have ebP2 := bP.cell 2
          have ebP3 := bP.cell 3
          have zbP := bP.lt
          have ebQ0 := bQ.cell 0
          have ebQ1 := bQ.cell 1
          have ebQ2 := bQ.cell 2
          have ebQ3 := bQ.cell 3
          have zbQ := bQ.lt
          go_wp2_with fail
          refine (hAs.out _ _ _ _ _ PX.rd PY.rd).mono ?_
          rintro e w15 ⟨B5, d5, rfl, own, hb⟩
          clear ebP0 ebP1 ebP2 ebP3 zbP ebQ0 ebQ1 ebQ2 ebQ3 zbQ
          replace PX := PX.all hb
          replace PY := PY.all hb
          replace QO := QO.all hb
          replace bP := bP.all hb
          replace bQ := bQ.all hb
          replace R := R.all hb HB.size
          have QW := own.mono HB.size
          clear own
          replace HB := HB.trans (hb.mono HB.size)
          clear hb
          replace PX := PX.alloc (.cells #[.int .i64 aL, .int .i64 aT, .int .i64 aY, .slice B5 ao.length d5] 27)
          replace PY := PY.alloc (.cells #[.int .i64 aL, .int .i64 aT, .int .i64 aY, .slice B5 ao.length d5] 27)
          replace QO := QO.alloc (.cells #[.int .i64 aL, .int .i64 aT, .int .i64 aY, .slice B5 ao.length d5] 27)
          replace QW := QW.alloc (.cells #[.int .i64 aL, .int .i64 aT, .int .i64 aY, .slice B5 ao.length d5] 27)
          replace bP := bP.alloc (.cells #[.int .i64 aL, .int .i64 aT, .int .i64 aY, .slice B5 ao.length d5] 27)
          replace bQ := bQ.alloc (.cells #[.int .i64 aL, .int .i64 aT, .int .i64 aY, .slice B5 ao.length d5] 27)
          replace R := R.alloc HB.size (.cells #[.int .i64 aL, .int .i64 aT, .int .i64 aY, .slice B5 ao.length d5] 27)
          have bR := Blk.new w15 #[.int .i64 aL, .int .i64 aT, .int .i64 aY, .slice B5 ao.length d5] 27
          replace HB := HB.alloc HB.size (.cells #[.int .i64 aL, .int .i64 aT, .int .i64 aY, .slice B5 ao.length d5] 27)
          clear hAi hAs
          have ebP0 := bP.cell 0
          have ebP1 := bP.cell 1
          have ebP2 := bP.cell 2
          have ebP3 := bP.cell 3
          have zbP := bP.lt
          have ebQ0 := bQ.cell 0
          have ebQ1 := bQ.cell 1
          have ebQ2 := bQ.cell 2
          have ebQ3 := bQ.cell 3
          have zbQ := bQ.lt
          have ebR0 := bR.cell 0
          have ebR1 := bR.cell 1
          have ebR2 := bR.cell 2
          have ebR3 := bR.cell 3
          have zbR := bR.lt
          go_wp2_with fail
          refine (rBath_same aL aT aY _ _ _ _ _ _ _ _ ao _ QO.rd QW.rd (Nat.le_refl _) (Nat.le_refl _)).mono ?_
          rintro e w16 ⟨rfl, hb⟩
          clear ebP0 ebP1 ebP2 ebP3 zbP ebQ0 ebQ1 ebQ2 ebQ3 zbQ ebR0 ebR1 ebR2 ebR3 zbR
          replace PX := PX.all hb
          replace PY := PY.all hb
          replace QO := QO.all hb
          replace QW := QW.all hb
          replace bP := bP.all hb
          replace bQ := bQ.all hb
          replace bR := bR.all hb
          replace R := R.all hb HB.size
          replace HB := HB.trans (hb.mono HB.size)
          clear hb
          go_wp2
          go_ret
          exact ⟨ret_bool (by simp), HB⟩
        · skip
          clear OX OY bB
          go_wp2_with fail
          refine (drawAddStuff_any A n c w.heap.size _ R HB.size hn).mono ?_
          rintro e w13 ⟨B2, d2, ps, l, u, v, B3, d3, rs, s, z9, rfl, ⟨hpl, hrl, hl, hu, hv, hs, hz9⟩, own, own2, hb⟩
          replace R := R.all hb HB.size
          have PX := own.mono HB.size
          clear own
          have PY := own2.mono HB.size
          clear own2
          replace HB := HB.trans (hb.mono HB.size)
          clear hb
          replace PX := PX.alloc (.cells #[.int .i64 l, .int .i64 u, .int .i64 v, .slice B3 rs.length d3] 27)
          replace PY := PY.alloc (.cells #[.int .i64 l, .int .i64 u, .int .i64 v, .slice B3 rs.length d3] 27)
          replace R := R.alloc HB.size (.cells #[.int .i64 l, .int .i64 u, .int .i64 v, .slice B3 rs.length d3] 27)
          have bP := Blk.new w13 #[.int .i64 l, .int .i64 u, .int .i64 v, .slice B3 rs.length d3] 27
          replace HB := HB.alloc HB.size (.cells #[.int .i64 l, .int .i64 u, .int .i64 v, .slice B3 rs.length d3] 27)
          obtain ⟨aL, haL⟩ : ∃ z, addN ps l u v rs s z9 l = z := ⟨_, rfl⟩
          obtain ⟨aT, haT⟩ : ∃ z, addN ps l u v rs s z9 u = z := ⟨_, rfl⟩
          obtain ⟨aY, haY⟩ : ∃ z, addN ps l u v rs s z9 v = z := ⟨_, rfl⟩
          obtain ⟨ao, hao⟩ : ∃ z, addL ps l u v rs s z9 = z := ⟨_, rfl⟩
          obtain ⟨ab, hab⟩ : ∃ z, addB ps l u v rs s z9 = z := ⟨_, rfl⟩
          have hAi : Hid (∀ (w : World) (A : Option Addr) (c : Nat) (A' : Option Addr) (c' : Nat), RdF dyePartF w w.heap.size A ps.length c ps → Rd w w.heap.size A' rs.length c' rs → Calls Try.prog 17 #[.slice A ps.length c, bathV l u v (.slice A' rs.length c'), .string s, .int .i64 z9] w (OutBath w aL aT aY ao ab)) := Lib.hid fun w A c A' c' h h' => (by have := implAddStuff_any A _ c _ ps l u v A' _ c' _ rs s z9 w h (Nat.le_refl _) h' (Nat.le_refl _); rw [haL, haT, haY, hao, hab] at this; exact this)
          have hAs : Hid (∀ (w : World) (A : Option Addr) (c : Nat) (A' : Option Addr) (c' : Nat), RdF dyePartF w w.heap.size A ps.length c ps → Rd w w.heap.size A' rs.length c' rs → Calls Try.prog 19 #[.slice A ps.length c, bathV l u v (.slice A' rs.length c'), .string s, .int .i64 z9] w (OutBath w aL aT aY ao ab)) := Lib.hid fun w A c A' c' h h' => (by have := specAddStuff_any A _ c _ ps l u v A' _ c' _ rs s z9 w h (Nat.le_refl _) h' (Nat.le_refl _); rw [haL, haT, haY, hao, hab] at this; exact this)
          clear haL haT haY hao hab
          have ebP0 := bP.cell 0
          have ebP1 := bP.cell 1
          have ebP2 := bP.cell 2
          have ebP3 := bP.cell 3
          have zbP := bP.lt
          go_wp2_with fail
          refine (hAi.out _ _ _ _ _ PX.rd PY.rd).mono ?_
          rintro e w14 ⟨B4, d4, rfl, own, hb⟩
          clear ebP0 ebP1 ebP2 ebP3 zbP
          replace PX := PX.all hb
          replace PY := PY.all hb
          replace bP := bP.all hb
          replace R := R.all hb HB.size
          have QO := own.mono HB.size
          clear own
          replace HB := HB.trans (hb.mono HB.size)
          clear hb
          replace PX := PX.alloc (.cells #[.int .i64 aL, .int .i64 aT, .int .i64 aY, .slice B4 ao.length d4] 27)
          replace PY := PY.alloc (.cells #[.int .i64 aL, .int .i64 aT, .int .i64 aY, .slice B4 ao.length d4] 27)
          replace QO := QO.alloc (.cells #[.int .i64 aL, .int .i64 aT, .int .i64 aY, .slice B4 ao.length d4] 27)
          replace bP := bP.alloc (.cells #[.int .i64 aL, .int .i64 aT, .int .i64 aY, .slice B4 ao.length d4] 27)
          replace R := R.alloc HB.size (.cells #[.int .i64 aL, .int .i64 aT, .int .i64 aY, .slice B4 ao.length d4] 27)
          have bQ := Blk.new w14 #[.int .i64 aL, .int .i64 aT, .int .i64 aY, .slice B4 ao.length d4] 27
          replace HB := HB.alloc HB.size (.cells #[.int .i64 aL, .int .i64 aT, .int .i64 aY, .slice B4 ao.length d4] 27)
          have ebP0 := bP.cell 0
          have ebP1 := bP.cell 1
          have ebP2 := bP.cell 2
          have ebP3 := bP.cell 3
          have zbP := bP.lt
          have ebQ0 := bQ.cell 0
          have ebQ1 := bQ.cell 1
          have ebQ2 := bQ.cell 2
          have ebQ3 := bQ.cell 3
          have zbQ := bQ.lt
          go_wp2_with fail
          refine (hAs.out _ _ _ _ _ PX.rd PY.rd).mono ?_
          rintro e w15 ⟨B5, d5, rfl, own, hb⟩
          clear ebP0 ebP1 ebP2 ebP3 zbP ebQ0 ebQ1 ebQ2 ebQ3 zbQ
          replace PX := PX.all hb
          replace PY := PY.all hb
          replace QO := QO.all hb
          replace bP := bP.all hb
          replace bQ := bQ.all hb
          replace R := R.all hb HB.size
          have QW := own.mono HB.size
          clear own
          replace HB := HB.trans (hb.mono HB.size)
          clear hb
          replace PX := PX.alloc (.cells #[.int .i64 aL, .int .i64 aT, .int .i64 aY, .slice B5 ao.length d5] 27)
          replace PY := PY.alloc (.cells #[.int .i64 aL, .int .i64 aT, .int .i64 aY, .slice B5 ao.length d5] 27)
          replace QO := QO.alloc (.cells #[.int .i64 aL, .int .i64 aT, .int .i64 aY, .slice B5 ao.length d5] 27)
          replace QW := QW.alloc (.cells #[.int .i64 aL, .int .i64 aT, .int .i64 aY, .slice B5 ao.length d5] 27)
          replace bP := bP.alloc (.cells #[.int .i64 aL, .int .i64 aT, .int .i64 aY, .slice B5 ao.length d5] 27)
          replace bQ := bQ.alloc (.cells #[.int .i64 aL, .int .i64 aT, .int .i64 aY, .slice B5 ao.length d5] 27)
          replace R := R.alloc HB.size (.cells #[.int .i64 aL, .int .i64 aT, .int .i64 aY, .slice B5 ao.length d5] 27)
          have bR := Blk.new w15 #[.int .i64 aL, .int .i64 aT, .int .i64 aY, .slice B5 ao.length d5] 27
          replace HB := HB.alloc HB.size (.cells #[.int .i64 aL, .int .i64 aT, .int .i64 aY, .slice B5 ao.length d5] 27)
          clear hAi hAs
          have ebP0 := bP.cell 0
          have ebP1 := bP.cell 1
          have ebP2 := bP.cell 2
          have ebP3 := bP.cell 3
          have zbP := bP.lt
          have ebQ0 := bQ.cell 0
          have ebQ1 := bQ.cell 1
          have ebQ2 := bQ.cell 2
          have ebQ3 := bQ.cell 3
          have zbQ := bQ.lt
          have ebR0 := bR.cell 0
          have ebR1 := bR.cell 1
          have ebR2 := bR.cell 2
          have ebR3 := bR.cell 3
          have zbR := bR.lt
          go_wp2_with fail
          refine (rBath_same aL aT aY _ _ _ _ _ _ _ _ ao _ QO.rd QW.rd (Nat.le_refl _) (Nat.le_refl _)).mono ?_
          rintro e w16 ⟨rfl, hb⟩
          clear ebP0 ebP1 ebP2 ebP3 zbP ebQ0 ebQ1 ebQ2 ebQ3 zbQ ebR0 ebR1 ebR2 ebR3 zbR
          replace PX := PX.all hb
          replace PY := PY.all hb
          replace QO := QO.all hb
          replace QW := QW.all hb
          replace bP := bP.all hb
          replace bQ := bQ.all hb
          replace bR := bR.all hb
          replace R := R.all hb HB.size
          replace HB := HB.trans (hb.mono HB.size)
          clear hb
          go_wp2
          go_ret
          exact ⟨ret_bool (by simp), HB⟩
    case true =>
      obtain ⟨t2, hm0, hQ1, hQ2⟩ := HMF.out rfl
      have HQ1 := Lib.hid hQ1
      have HQ2 := Lib.hid hQ2
      have ew : IntKind.i64.wrap (m + 1) = m + 1 := IntWalk.i64_in _ (by omega)
      clear HMF hQ1 hQ2
      have ebB0 := bB.cell 0
      have ebB1 := bB.cell 1
      have ebB2 := bB.cell 2
      have ebB3 := bB.cell 3
      have zbB := bB.lt
      have ebO0 := bO.cell 0
      have ebO1 := bO.cell 1
      have ebO2 := bO.cell 2
      have ebO3 := bO.cell 3
      have zbO := bO.lt
      go_wp2_with fail
      clear ebB0 ebB1 ebB2 ebB3 ebO0 ebO1 ebO2 ebO3 zbB zbO
      have qbB := bB.lt
      have qbO := bO.lt
      have qHB := HB.size
      have hbx := ((Below.refl w9.heap.size w9).alloc (Nat.le_refl _) (.cells #[.int .i64 L, .int .i64 TT, .int .i64 m, .slice A3 ys.length c3] 27))
      replace OX := OX.all hbx
      replace OY := OY.all hbx
      replace OO := OO.all hbx
      replace bB := bB.all hbx
      replace bO := bO.all hbx
      replace R := R.all hbx HB.size
      have bX := Blk.new w9 #[.int .i64 L, .int .i64 TT, .int .i64 m, .slice A3 ys.length c3] 27
      replace HB := HB.trans (hbx.mono HB.size)
      clear hbx
      obtain ⟨P, hP⟩ : ∃ q, w9.heap.size = q := ⟨_, rfl⟩
      refine (HQ1.out _ _ _ _ _ OX.rd OY.rd).mono ?_
      rintro e w50 ⟨rfl, hb⟩
      replace OX := OX.all hb
      replace OY := OY.all hb
      replace OO := OO.all hb
      replace bB := bB.all hb
      replace bO := bO.all hb
      replace R := R.all hb HB.size
      replace bX := bX.all hb
      replace HB := HB.trans (hb.mono HB.size)
      clear hb HQ1
      rw [hP] at bX ⊢
      have u0 := bX.cell 0
      have u1 := bX.cell 1
      have u2 := bX.cell 2
      have u3 := bX.cell 3
      have g2 := bX.frozen 2
      go_wp2_with fail
      clear u0 u1 u2 u3 g2
      replace OX := OX.far (a := ⟨P, 2, none⟩) (row_ne' OX.1 bX (by decide)) (.int .i64 (m + 1))
      replace OY := OY.far (a := ⟨P, 2, none⟩) (row_ne' OY.1 bX (by decide)) (.int .i64 (m + 1))
      replace OO := OO.far (a := ⟨P, 2, none⟩) (row_ne' OO.1 bX (by decide)) (.int .i64 (m + 1))
      replace bB := bB.far (a := ⟨P, 2, none⟩) (by show _ ≠ P; omega) (.int .i64 (m + 1))
      replace bO := bO.far (a := ⟨P, 2, none⟩) (by show _ ≠ P; omega) (.int .i64 (m + 1))
      replace HB := HB.setCell (p := ⟨P, 2, none⟩) (by show w.heap.size ≤ P; omega) (.int .i64 (m + 1))
      replace R := R0.all HB (Nat.le_refl _)
      clear bX
      refine (HQ2.out _ _ _ _ _ OX.rd OY.rd).mono ?_
      rintro e w51 ⟨rfl, hb⟩
      replace OX := OX.all hb
      replace OY := OY.all hb
      replace OO := OO.all hb
      replace bB := bB.all hb
      replace bO := bO.all hb
      replace R := R.all hb HB.size
      replace HB := HB.trans (hb.mono HB.size)
      clear hb HQ2 ew hP qHB qbB qbO
      cases t2
      case true =>
        have ebB0 := bB.cell 0
        have ebB1 := bB.cell 1
        have ebB2 := bB.cell 2
        have ebB3 := bB.cell 3
        have zbB := bB.lt
        have ebO0 := bO.cell 0
        have ebO1 := bO.cell 1
        have ebO2 := bO.cell 2
        have ebO3 := bO.cell 3
        have zbO := bO.lt
        go_wp2_with fail
        refine (hNi.out _ _ _ OX.rd).mono ?_
        rintro e w10 ⟨A6, c6, rfl, own, hb⟩
        clear ebB0 ebB1 ebB2 ebB3 zbB ebO0 ebO1 ebO2 ebO3 zbO
        replace OX := OX.all hb
        replace OY := OY.all hb
        replace OO := OO.all hb
        replace bB := bB.all hb
        replace bO := bO.all hb
        replace R := R.all hb HB.size
        have ON := own.mono HB.size
        clear own
        replace HB := HB.trans (hb.mono HB.size)
        clear hb
        have ebB0 := bB.cell 0
        have ebB1 := bB.cell 1
        have ebB2 := bB.cell 2
        have ebB3 := bB.cell 3
        have zbB := bB.lt
        have ebO0 := bO.cell 0
        have ebO1 := bO.cell 1
        have ebO2 := bO.cell 2
        have ebO3 := bO.cell 3
        have zbO := bO.lt
        go_wp2_with fail
        refine (hNs.out _ _ _ OX.rd).mono ?_
        rintro e w11 ⟨A7, c7, rfl, own, hb⟩
        clear ebB0 ebB1 ebB2 ebB3 zbB ebO0 ebO1 ebO2 ebO3 zbO
        replace OX := OX.all hb
        replace OY := OY.all hb
        replace OO := OO.all hb
        replace ON := ON.all hb
        replace bB := bB.all hb
        replace bO := bO.all hb
        replace R := R.all hb HB.size
        have OM := own.mono HB.size
        clear own
        replace HB := HB.trans (hb.mono HB.size)
        clear hb
        clear hNi hNs
        have ebB0 := bB.cell 0
        have ebB1 := bB.cell 1
        have ebB2 := bB.cell 2
        have ebB3 := bB.cell 3
        have zbB := bB.lt
        have ebO0 := bO.cell 0
        have ebO1 := bO.cell 1
        have ebO2 := bO.cell 2
        have ebO3 := bO.cell 3
        have zbO := bO.lt
        go_wp2_with fail
        refine (rInts_low _ _ _ _ _ _ _ _ nd _ ON.rd OM.rd).mono ?_
        rintro e w12 ⟨rfl, hb⟩
        clear ebB0 ebB1 ebB2 ebB3 zbB ebO0 ebO1 ebO2 ebO3 zbO
        replace OX := OX.all hb
        replace OY := OY.all hb
        replace OO := OO.all hb
        replace ON := ON.all hb
        replace OM := OM.all hb
        replace bB := bB.all hb
        replace bO := bO.all hb
        replace R := R.all hb HB.size
        replace HB := HB.trans (hb.mono HB.size)
        clear hb
        clear OM
        clear ON OO bO
        go_wp2
        go_loopw [26] (fun ii wr => ii = .int .i64 0 ∧ wr = w12) (fun _ _ => 0)
        case atStart => exact ⟨rfl, rfl⟩
        case round =>
          obtain ⟨rfl, hw⟩ := hrel
          subst hw
          by_cases hxn : (0 : Int) < (xs.length : Int)
          · skip
            clear OX OY bB
            go_wp2_with fail
            refine (drawAddStuff_any A n c w.heap.size _ R HB.size hn).mono ?_
            rintro e w13 ⟨B2, d2, ps, l, u, v, B3, d3, rs, s, z9, rfl, ⟨hpl, hrl, hl, hu, hv, hs, hz9⟩, own, own2, hb⟩
            replace R := R.all hb HB.size
            have PX := own.mono HB.size
            clear own
            have PY := own2.mono HB.size
            clear own2
            replace HB := HB.trans (hb.mono HB.size)
            clear hb
            replace PX := PX.alloc (.cells #[.int .i64 l, .int .i64 u, .int .i64 v, .slice B3 rs.length d3] 27)
            replace PY := PY.alloc (.cells #[.int .i64 l, .int .i64 u, .int .i64 v, .slice B3 rs.length d3] 27)
            replace R := R.alloc HB.size (.cells #[.int .i64 l, .int .i64 u, .int .i64 v, .slice B3 rs.length d3] 27)
            have bP := Blk.new w13 #[.int .i64 l, .int .i64 u, .int .i64 v, .slice B3 rs.length d3] 27
            replace HB := HB.alloc HB.size (.cells #[.int .i64 l, .int .i64 u, .int .i64 v, .slice B3 rs.length d3] 27)
            obtain ⟨aL, haL⟩ : ∃ z, addN ps l u v rs s z9 l = z := ⟨_, rfl⟩
            obtain ⟨aT, haT⟩ : ∃ z, addN ps l u v rs s z9 u = z := ⟨_, rfl⟩
            obtain ⟨aY, haY⟩ : ∃ z, addN ps l u v rs s z9 v = z := ⟨_, rfl⟩
            obtain ⟨ao, hao⟩ : ∃ z, addL ps l u v rs s z9 = z := ⟨_, rfl⟩
            obtain ⟨ab, hab⟩ : ∃ z, addB ps l u v rs s z9 = z := ⟨_, rfl⟩
            have hAi : Hid (∀ (w : World) (A : Option Addr) (c : Nat) (A' : Option Addr) (c' : Nat), RdF dyePartF w w.heap.size A ps.length c ps → Rd w w.heap.size A' rs.length c' rs → Calls Try.prog 17 #[.slice A ps.length c, bathV l u v (.slice A' rs.length c'), .string s, .int .i64 z9] w (OutBath w aL aT aY ao ab)) := Lib.hid fun w A c A' c' h h' => (by have := implAddStuff_any A _ c _ ps l u v A' _ c' _ rs s z9 w h (Nat.le_refl _) h' (Nat.le_refl _); rw [haL, haT, haY, hao, hab] at this; exact this)
            have hAs : Hid (∀ (w : World) (A : Option Addr) (c : Nat) (A' : Option Addr) (c' : Nat), RdF dyePartF w w.heap.size A ps.length c ps → Rd w w.heap.size A' rs.length c' rs → Calls Try.prog 19 #[.slice A ps.length c, bathV l u v (.slice A' rs.length c'), .string s, .int .i64 z9] w (OutBath w aL aT aY ao ab)) := Lib.hid fun w A c A' c' h h' => (by have := specAddStuff_any A _ c _ ps l u v A' _ c' _ rs s z9 w h (Nat.le_refl _) h' (Nat.le_refl _); rw [haL, haT, haY, hao, hab] at this; exact this)
            clear haL haT haY hao hab
            have ebP0 := bP.cell 0
            have ebP1 := bP.cell 1
            have ebP2 := bP.cell 2
            have ebP3 := bP.cell 3
            have zbP := bP.lt
            go_wp2_with fail
            refine (hAi.out _ _ _ _ _ PX.rd PY.rd).mono ?_
            rintro e w14 ⟨B4, d4, rfl, own, hb⟩
            clear ebP0 ebP1 ebP2 ebP3 zbP
            replace PX := PX.all hb
            replace PY := PY.all hb
            replace bP := bP.all hb
            replace R := R.all hb HB.size
            have QO := own.mono HB.size
            clear own
            replace HB := HB.trans (hb.mono HB.size)
            clear hb
            replace PX := PX.alloc (.cells #[.int .i64 aL, .int .i64 aT, .int .i64 aY, .slice B4 ao.length d4] 27)
            replace PY := PY.alloc (.cells #[.int .i64 aL, .int .i64 aT, .int .i64 aY, .slice B4 ao.length d4] 27)
            replace QO := QO.alloc (.cells #[.int .i64 aL, .int .i64 aT, .int .i64 aY, .slice B4 ao.length d4] 27)
            replace bP := bP.alloc (.cells #[.int .i64 aL, .int .i64 aT, .int .i64 aY, .slice B4 ao.length d4] 27)
            replace R := R.alloc HB.size (.cells #[.int .i64 aL, .int .i64 aT, .int .i64 aY, .slice B4 ao.length d4] 27)
            have bQ := Blk.new w14 #[.int .i64 aL, .int .i64 aT, .int .i64 aY, .slice B4 ao.length d4] 27
            replace HB := HB.alloc HB.size (.cells #[.int .i64 aL, .int .i64 aT, .int .i64 aY, .slice B4 ao.length d4] 27)
            have ebP0 := bP.cell 0
            have ebP1 := bP.cell 1
            have ebP2 := bP.cell 2
            have ebP3 := bP.cell 3
            have zbP := bP.lt
            have ebQ0 := bQ.cell 0
            have ebQ1 := bQ.cell 1
            have ebQ2 := bQ.cell 2
            have ebQ3 := bQ.cell 3
            have zbQ := bQ.lt
            go_wp2_with fail
            refine (hAs.out _ _ _ _ _ PX.rd PY.rd).mono ?_
            rintro e w15 ⟨B5, d5, rfl, own, hb⟩
            clear ebP0 ebP1 ebP2 ebP3 zbP ebQ0 ebQ1 ebQ2 ebQ3 zbQ
            replace PX := PX.all hb
            replace PY := PY.all hb
            replace QO := QO.all hb
            replace bP := bP.all hb
            replace bQ := bQ.all hb
            replace R := R.all hb HB.size
            have QW := own.mono HB.size
            clear own
            replace HB := HB.trans (hb.mono HB.size)
            clear hb
            replace PX := PX.alloc (.cells #[.int .i64 aL, .int .i64 aT, .int .i64 aY, .slice B5 ao.length d5] 27)
            replace PY := PY.alloc (.cells #[.int .i64 aL, .int .i64 aT, .int .i64 aY, .slice B5 ao.length d5] 27)
            replace QO := QO.alloc (.cells #[.int .i64 aL, .int .i64 aT, .int .i64 aY, .slice B5 ao.length d5] 27)
            replace QW := QW.alloc (.cells #[.int .i64 aL, .int .i64 aT, .int .i64 aY, .slice B5 ao.length d5] 27)
            replace bP := bP.alloc (.cells #[.int .i64 aL, .int .i64 aT, .int .i64 aY, .slice B5 ao.length d5] 27)
            replace bQ := bQ.alloc (.cells #[.int .i64 aL, .int .i64 aT, .int .i64 aY, .slice B5 ao.length d5] 27)
            replace R := R.alloc HB.size (.cells #[.int .i64 aL, .int .i64 aT, .int .i64 aY, .slice B5 ao.length d5] 27)
            have bR := Blk.new w15 #[.int .i64 aL, .int .i64 aT, .int .i64 aY, .slice B5 ao.length d5] 27
            replace HB := HB.alloc HB.size (.cells #[.int .i64 aL, .int .i64 aT, .int .i64 aY, .slice B5 ao.length d5] 27)
            clear hAi hAs
            have ebP0 := bP.cell 0
            have ebP1 := bP.cell 1
            have ebP2 := bP.cell 2
            have ebP3 := bP.cell 3
            have zbP := bP.lt
            have ebQ0 := bQ.cell 0
            have ebQ1 := bQ.cell 1
            have ebQ2 := bQ.cell 2
            have ebQ3 := bQ.cell 3
            have zbQ := bQ.lt
            have ebR0 := bR.cell 0
            have ebR1 := bR.cell 1
            have ebR2 := bR.cell 2
            have ebR3 := bR.cell 3
            have zbR := bR.lt
            go_wp2_with fail
            refine (rBath_same aL aT aY _ _ _ _ _ _ _ _ ao _ QO.rd QW.rd (Nat.le_refl _) (Nat.le_refl _)).mono ?_
            rintro e w16 ⟨rfl, hb⟩
            clear ebP0 ebP1 ebP2 ebP3 zbP ebQ0 ebQ1 ebQ2 ebQ3 zbQ ebR0 ebR1 ebR2 ebR3 zbR
            replace PX := PX.all hb
            replace PY := PY.all hb
            replace QO := QO.all hb
            replace QW := QW.all hb
            replace bP := bP.all hb
            replace bQ := bQ.all hb
            replace bR := bR.all hb
            replace R := R.all hb HB.size
            replace HB := HB.trans (hb.mono HB.size)
            clear hb
            go_wp2
            go_ret
            exact ⟨ret_bool (by simp), HB⟩
          · skip
            clear OX OY bB
            go_wp2_with fail
            refine (drawAddStuff_any A n c w.heap.size _ R HB.size hn).mono ?_
            rintro e w13 ⟨B2, d2, ps, l, u, v, B3, d3, rs, s, z9, rfl, ⟨hpl, hrl, hl, hu, hv, hs, hz9⟩, own, own2, hb⟩
            replace R := R.all hb HB.size
            have PX := own.mono HB.size
            clear own
            have PY := own2.mono HB.size
            clear own2
            replace HB := HB.trans (hb.mono HB.size)
            clear hb
            replace PX := PX.alloc (.cells #[.int .i64 l, .int .i64 u, .int .i64 v, .slice B3 rs.length d3] 27)
            replace PY := PY.alloc (.cells #[.int .i64 l, .int .i64 u, .int .i64 v, .slice B3 rs.length d3] 27)
            replace R := R.alloc HB.size (.cells #[.int .i64 l, .int .i64 u, .int .i64 v, .slice B3 rs.length d3] 27)
            have bP := Blk.new w13 #[.int .i64 l, .int .i64 u, .int .i64 v, .slice B3 rs.length d3] 27
            replace HB := HB.alloc HB.size (.cells #[.int .i64 l, .int .i64 u, .int .i64 v, .slice B3 rs.length d3] 27)
            obtain ⟨aL, haL⟩ : ∃ z, addN ps l u v rs s z9 l = z := ⟨_, rfl⟩
            obtain ⟨aT, haT⟩ : ∃ z, addN ps l u v rs s z9 u = z := ⟨_, rfl⟩
            obtain ⟨aY, haY⟩ : ∃ z, addN ps l u v rs s z9 v = z := ⟨_, rfl⟩
            obtain ⟨ao, hao⟩ : ∃ z, addL ps l u v rs s z9 = z := ⟨_, rfl⟩
            obtain ⟨ab, hab⟩ : ∃ z, addB ps l u v rs s z9 = z := ⟨_, rfl⟩
            have hAi : Hid (∀ (w : World) (A : Option Addr) (c : Nat) (A' : Option Addr) (c' : Nat), RdF dyePartF w w.heap.size A ps.length c ps → Rd w w.heap.size A' rs.length c' rs → Calls Try.prog 17 #[.slice A ps.length c, bathV l u v (.slice A' rs.length c'), .string s, .int .i64 z9] w (OutBath w aL aT aY ao ab)) := Lib.hid fun w A c A' c' h h' => (by have := implAddStuff_any A _ c _ ps l u v A' _ c' _ rs s z9 w h (Nat.le_refl _) h' (Nat.le_refl _); rw [haL, haT, haY, hao, hab] at this; exact this)
            have hAs : Hid (∀ (w : World) (A : Option Addr) (c : Nat) (A' : Option Addr) (c' : Nat), RdF dyePartF w w.heap.size A ps.length c ps → Rd w w.heap.size A' rs.length c' rs → Calls Try.prog 19 #[.slice A ps.length c, bathV l u v (.slice A' rs.length c'), .string s, .int .i64 z9] w (OutBath w aL aT aY ao ab)) := Lib.hid fun w A c A' c' h h' => (by have := specAddStuff_any A _ c _ ps l u v A' _ c' _ rs s z9 w h (Nat.le_refl _) h' (Nat.le_refl _); rw [haL, haT, haY, hao, hab] at this; exact this)
            clear haL haT haY hao hab
            have ebP0 := bP.cell 0
            have ebP1 := bP.cell 1
            have ebP2 := bP.cell 2
            have ebP3 := bP.cell 3
            have zbP := bP.lt
            go_wp2_with fail
            refine (hAi.out _ _ _ _ _ PX.rd PY.rd).mono ?_
            rintro e w14 ⟨B4, d4, rfl, own, hb⟩
            clear ebP0 ebP1 ebP2 ebP3 zbP
            replace PX := PX.all hb
            replace PY := PY.all hb
            replace bP := bP.all hb
            replace R := R.all hb HB.size
            have QO := own.mono HB.size
            clear own
            replace HB := HB.trans (hb.mono HB.size)
            clear hb
            replace PX := PX.alloc (.cells #[.int .i64 aL, .int .i64 aT, .int .i64 aY, .slice B4 ao.length d4] 27)
            replace PY := PY.alloc (.cells #[.int .i64 aL, .int .i64 aT, .int .i64 aY, .slice B4 ao.length d4] 27)
            replace QO := QO.alloc (.cells #[.int .i64 aL, .int .i64 aT, .int .i64 aY, .slice B4 ao.length d4] 27)
            replace bP := bP.alloc (.cells #[.int .i64 aL, .int .i64 aT, .int .i64 aY, .slice B4 ao.length d4] 27)
            replace R := R.alloc HB.size (.cells #[.int .i64 aL, .int .i64 aT, .int .i64 aY, .slice B4 ao.length d4] 27)
            have bQ := Blk.new w14 #[.int .i64 aL, .int .i64 aT, .int .i64 aY, .slice B4 ao.length d4] 27
            replace HB := HB.alloc HB.size (.cells #[.int .i64 aL, .int .i64 aT, .int .i64 aY, .slice B4 ao.length d4] 27)
            have ebP0 := bP.cell 0
            have ebP1 := bP.cell 1
            have ebP2 := bP.cell 2
            have ebP3 := bP.cell 3
            have zbP := bP.lt
            have ebQ0 := bQ.cell 0
            have ebQ1 := bQ.cell 1
            have ebQ2 := bQ.cell 2
            have ebQ3 := bQ.cell 3
            have zbQ := bQ.lt
            go_wp2_with fail
            refine (hAs.out _ _ _ _ _ PX.rd PY.rd).mono ?_
            rintro e w15 ⟨B5, d5, rfl, own, hb⟩
            clear ebP0 ebP1 ebP2 ebP3 zbP ebQ0 ebQ1 ebQ2 ebQ3 zbQ
            replace PX := PX.all hb
            replace PY := PY.all hb
            replace QO := QO.all hb
            replace bP := bP.all hb
            replace bQ := bQ.all hb
            replace R := R.all hb HB.size
            have QW := own.mono HB.size
            clear own
            replace HB := HB.trans (hb.mono HB.size)
            clear hb
            replace PX := PX.alloc (.cells #[.int .i64 aL, .int .i64 aT, .int .i64 aY, .slice B5 ao.length d5] 27)
            replace PY := PY.alloc (.cells #[.int .i64 aL, .int .i64 aT, .int .i64 aY, .slice B5 ao.length d5] 27)
            replace QO := QO.alloc (.cells #[.int .i64 aL, .int .i64 aT, .int .i64 aY, .slice B5 ao.length d5] 27)
            replace QW := QW.alloc (.cells #[.int .i64 aL, .int .i64 aT, .int .i64 aY, .slice B5 ao.length d5] 27)
            replace bP := bP.alloc (.cells #[.int .i64 aL, .int .i64 aT, .int .i64 aY, .slice B5 ao.length d5] 27)
            replace bQ := bQ.alloc (.cells #[.int .i64 aL, .int .i64 aT, .int .i64 aY, .slice B5 ao.length d5] 27)
            replace R := R.alloc HB.size (.cells #[.int .i64 aL, .int .i64 aT, .int .i64 aY, .slice B5 ao.length d5] 27)
            have bR := Blk.new w15 #[.int .i64 aL, .int .i64 aT, .int .i64 aY, .slice B5 ao.length d5] 27
            replace HB := HB.alloc HB.size (.cells #[.int .i64 aL, .int .i64 aT, .int .i64 aY, .slice B5 ao.length d5] 27)
            clear hAi hAs
            have ebP0 := bP.cell 0
            have ebP1 := bP.cell 1
            have ebP2 := bP.cell 2
            have ebP3 := bP.cell 3
            have zbP := bP.lt
            have ebQ0 := bQ.cell 0
            have ebQ1 := bQ.cell 1
            have ebQ2 := bQ.cell 2
            have ebQ3 := bQ.cell 3
            have zbQ := bQ.lt
            have ebR0 := bR.cell 0
            have ebR1 := bR.cell 1
            have ebR2 := bR.cell 2
            have ebR3 := bR.cell 3
            have zbR := bR.lt
            go_wp2_with fail
            refine (rBath_same aL aT aY _ _ _ _ _ _ _ _ ao _ QO.rd QW.rd (Nat.le_refl _) (Nat.le_refl _)).mono ?_
            rintro e w16 ⟨rfl, hb⟩
            clear ebP0 ebP1 ebP2 ebP3 zbP ebQ0 ebQ1 ebQ2 ebQ3 zbQ ebR0 ebR1 ebR2 ebR3 zbR
            replace PX := PX.all hb
            replace PY := PY.all hb
            replace QO := QO.all hb
            replace QW := QW.all hb
            replace bP := bP.all hb
            replace bQ := bQ.all hb
            replace bR := bR.all hb
            replace R := R.all hb HB.size
            replace HB := HB.trans (hb.mono HB.size)
            clear hb
            go_wp2
            go_ret
            exact ⟨ret_bool (by simp), HB⟩
      case false =>
        have ebB0 := bB.cell 0
        have ebB1 := bB.cell 1
        have ebB2 := bB.cell 2
        have ebB3 := bB.cell 3
        have zbB := bB.lt
        have ebO0 := bO.cell 0
        have ebO1 := bO.cell 1
        have ebO2 := bO.cell 2
        have ebO3 := bO.cell 3
        have zbO := bO.lt
        go_wp2_with fail
        refine (hNi.out _ _ _ OX.rd).mono ?_
        rintro e w10 ⟨A6, c6, rfl, own, hb⟩
        clear ebB0 ebB1 ebB2 ebB3 zbB ebO0 ebO1 ebO2 ebO3 zbO
        replace OX := OX.all hb
        replace OY := OY.all hb
        replace OO := OO.all hb
        replace bB := bB.all hb
        replace bO := bO.all hb
        replace R := R.all hb HB.size
        have ON := own.mono HB.size
        clear own
        replace HB := HB.trans (hb.mono HB.size)
        clear hb
        have ebB0 := bB.cell 0
        have ebB1 := bB.cell 1
        have ebB2 := bB.cell 2
        have ebB3 := bB.cell 3
        have zbB := bB.lt
        have ebO0 := bO.cell 0
        have ebO1 := bO.cell 1
        have ebO2 := bO.cell 2
        have ebO3 := bO.cell 3
        have zbO := bO.lt
        go_wp2_with fail
        refine (hNs.out _ _ _ OX.rd).mono ?_
        rintro e w11 ⟨A7, c7, rfl, own, hb⟩
        clear ebB0 ebB1 ebB2 ebB3 zbB ebO0 ebO1 ebO2 ebO3 zbO
        replace OX := OX.all hb
        replace OY := OY.all hb
        replace OO := OO.all hb
        replace ON := ON.all hb
        replace bB := bB.all hb
        replace bO := bO.all hb
        replace R := R.all hb HB.size
        have OM := own.mono HB.size
        clear own
        replace HB := HB.trans (hb.mono HB.size)
        clear hb
        clear hNi hNs
        have ebB0 := bB.cell 0
        have ebB1 := bB.cell 1
        have ebB2 := bB.cell 2
        have ebB3 := bB.cell 3
        have zbB := bB.lt
        have ebO0 := bO.cell 0
        have ebO1 := bO.cell 1
        have ebO2 := bO.cell 2
        have ebO3 := bO.cell 3
        have zbO := bO.lt
        go_wp2_with fail
        refine (rInts_low _ _ _ _ _ _ _ _ nd _ ON.rd OM.rd).mono ?_
        rintro e w12 ⟨rfl, hb⟩
        clear ebB0 ebB1 ebB2 ebB3 zbB ebO0 ebO1 ebO2 ebO3 zbO
        replace OX := OX.all hb
        replace OY := OY.all hb
        replace OO := OO.all hb
        replace ON := ON.all hb
        replace OM := OM.all hb
        replace bB := bB.all hb
        replace bO := bO.all hb
        replace R := R.all hb HB.size
        replace HB := HB.trans (hb.mono HB.size)
        clear hb
        clear OM
        clear ON OO bO
        go_wp2
        go_loopw [26] (fun ii wr => ii = .int .i64 0 ∧ wr = w12) (fun _ _ => 0)
        case atStart => exact ⟨rfl, rfl⟩
        case round =>
          obtain ⟨rfl, hw⟩ := hrel
          subst hw
          by_cases hxn : (0 : Int) < (xs.length : Int)
          · skip
            clear OX OY bB
            go_wp2_with fail
            refine (drawAddStuff_any A n c w.heap.size _ R HB.size hn).mono ?_
            rintro e w13 ⟨B2, d2, ps, l, u, v, B3, d3, rs, s, z9, rfl, ⟨hpl, hrl, hl, hu, hv, hs, hz9⟩, own, own2, hb⟩
            replace R := R.all hb HB.size
            have PX := own.mono HB.size
            clear own
            have PY := own2.mono HB.size
            clear own2
            replace HB := HB.trans (hb.mono HB.size)
            clear hb
            replace PX := PX.alloc (.cells #[.int .i64 l, .int .i64 u, .int .i64 v, .slice B3 rs.length d3] 27)
            replace PY := PY.alloc (.cells #[.int .i64 l, .int .i64 u, .int .i64 v, .slice B3 rs.length d3] 27)
            replace R := R.alloc HB.size (.cells #[.int .i64 l, .int .i64 u, .int .i64 v, .slice B3 rs.length d3] 27)
            have bP := Blk.new w13 #[.int .i64 l, .int .i64 u, .int .i64 v, .slice B3 rs.length d3] 27
            replace HB := HB.alloc HB.size (.cells #[.int .i64 l, .int .i64 u, .int .i64 v, .slice B3 rs.length d3] 27)
            obtain ⟨aL, haL⟩ : ∃ z, addN ps l u v rs s z9 l = z := ⟨_, rfl⟩
            obtain ⟨aT, haT⟩ : ∃ z, addN ps l u v rs s z9 u = z := ⟨_, rfl⟩
            obtain ⟨aY, haY⟩ : ∃ z, addN ps l u v rs s z9 v = z := ⟨_, rfl⟩
            obtain ⟨ao, hao⟩ : ∃ z, addL ps l u v rs s z9 = z := ⟨_, rfl⟩
            obtain ⟨ab, hab⟩ : ∃ z, addB ps l u v rs s z9 = z := ⟨_, rfl⟩
            have hAi : Hid (∀ (w : World) (A : Option Addr) (c : Nat) (A' : Option Addr) (c' : Nat), RdF dyePartF w w.heap.size A ps.length c ps → Rd w w.heap.size A' rs.length c' rs → Calls Try.prog 17 #[.slice A ps.length c, bathV l u v (.slice A' rs.length c'), .string s, .int .i64 z9] w (OutBath w aL aT aY ao ab)) := Lib.hid fun w A c A' c' h h' => (by have := implAddStuff_any A _ c _ ps l u v A' _ c' _ rs s z9 w h (Nat.le_refl _) h' (Nat.le_refl _); rw [haL, haT, haY, hao, hab] at this; exact this)
            have hAs : Hid (∀ (w : World) (A : Option Addr) (c : Nat) (A' : Option Addr) (c' : Nat), RdF dyePartF w w.heap.size A ps.length c ps → Rd w w.heap.size A' rs.length c' rs → Calls Try.prog 19 #[.slice A ps.length c, bathV l u v (.slice A' rs.length c'), .string s, .int .i64 z9] w (OutBath w aL aT aY ao ab)) := Lib.hid fun w A c A' c' h h' => (by have := specAddStuff_any A _ c _ ps l u v A' _ c' _ rs s z9 w h (Nat.le_refl _) h' (Nat.le_refl _); rw [haL, haT, haY, hao, hab] at this; exact this)
            clear haL haT haY hao hab
            have ebP0 := bP.cell 0
            have ebP1 := bP.cell 1
            have ebP2 := bP.cell 2
            have ebP3 := bP.cell 3
            have zbP := bP.lt
            go_wp2_with fail
            refine (hAi.out _ _ _ _ _ PX.rd PY.rd).mono ?_
            rintro e w14 ⟨B4, d4, rfl, own, hb⟩
            clear ebP0 ebP1 ebP2 ebP3 zbP
            replace PX := PX.all hb
            replace PY := PY.all hb
            replace bP := bP.all hb
            replace R := R.all hb HB.size
            have QO := own.mono HB.size
            clear own
            replace HB := HB.trans (hb.mono HB.size)
            clear hb
            replace PX := PX.alloc (.cells #[.int .i64 aL, .int .i64 aT, .int .i64 aY, .slice B4 ao.length d4] 27)
            replace PY := PY.alloc (.cells #[.int .i64 aL, .int .i64 aT, .int .i64 aY, .slice B4 ao.length d4] 27)
            replace QO := QO.alloc (.cells #[.int .i64 aL, .int .i64 aT, .int .i64 aY, .slice B4 ao.length d4] 27)
            replace bP := bP.alloc (.cells #[.int .i64 aL, .int .i64 aT, .int .i64 aY, .slice B4 ao.length d4] 27)
            replace R := R.alloc HB.size (.cells #[.int .i64 aL, .int .i64 aT, .int .i64 aY, .slice B4 ao.length d4] 27)
            have bQ := Blk.new w14 #[.int .i64 aL, .int .i64 aT, .int .i64 aY, .slice B4 ao.length d4] 27
            replace HB := HB.alloc HB.size (.cells #[.int .i64 aL, .int .i64 aT, .int .i64 aY, .slice B4 ao.length d4] 27)
            have ebP0 := bP.cell 0
            have ebP1 := bP.cell 1
            have ebP2 := bP.cell 2
            have ebP3 := bP.cell 3
            have zbP := bP.lt
            have ebQ0 := bQ.cell 0
            have ebQ1 := bQ.cell 1
            have ebQ2 := bQ.cell 2
            have ebQ3 := bQ.cell 3
            have zbQ := bQ.lt
            go_wp2_with fail
            refine (hAs.out _ _ _ _ _ PX.rd PY.rd).mono ?_
            rintro e w15 ⟨B5, d5, rfl, own, hb⟩
            clear ebP0 ebP1 ebP2 ebP3 zbP ebQ0 ebQ1 ebQ2 ebQ3 zbQ
            replace PX := PX.all hb
            replace PY := PY.all hb
            replace QO := QO.all hb
            replace bP := bP.all hb
            replace bQ := bQ.all hb
            replace R := R.all hb HB.size
            have QW := own.mono HB.size
            clear own
            replace HB := HB.trans (hb.mono HB.size)
            clear hb
            replace PX := PX.alloc (.cells #[.int .i64 aL, .int .i64 aT, .int .i64 aY, .slice B5 ao.length d5] 27)
            replace PY := PY.alloc (.cells #[.int .i64 aL, .int .i64 aT, .int .i64 aY, .slice B5 ao.length d5] 27)
            replace QO := QO.alloc (.cells #[.int .i64 aL, .int .i64 aT, .int .i64 aY, .slice B5 ao.length d5] 27)
            replace QW := QW.alloc (.cells #[.int .i64 aL, .int .i64 aT, .int .i64 aY, .slice B5 ao.length d5] 27)
            replace bP := bP.alloc (.cells #[.int .i64 aL, .int .i64 aT, .int .i64 aY, .slice B5 ao.length d5] 27)
            replace bQ := bQ.alloc (.cells #[.int .i64 aL, .int .i64 aT, .int .i64 aY, .slice B5 ao.length d5] 27)
            replace R := R.alloc HB.size (.cells #[.int .i64 aL, .int .i64 aT, .int .i64 aY, .slice B5 ao.length d5] 27)
            have bR := Blk.new w15 #[.int .i64 aL, .int .i64 aT, .int .i64 aY, .slice B5 ao.length d5] 27
            replace HB := HB.alloc HB.size (.cells #[.int .i64 aL, .int .i64 aT, .int .i64 aY, .slice B5 ao.length d5] 27)
            clear hAi hAs
            have ebP0 := bP.cell 0
            have ebP1 := bP.cell 1
            have ebP2 := bP.cell 2
            have ebP3 := bP.cell 3
            have zbP := bP.lt
            have ebQ0 := bQ.cell 0
            have ebQ1 := bQ.cell 1
            have ebQ2 := bQ.cell 2
            have ebQ3 := bQ.cell 3
            have zbQ := bQ.lt
            have ebR0 := bR.cell 0
            have ebR1 := bR.cell 1
            have ebR2 := bR.cell 2
            have ebR3 := bR.cell 3
            have zbR := bR.lt
            go_wp2_with fail
            refine (rBath_same aL aT aY _ _ _ _ _ _ _ _ ao _ QO.rd QW.rd (Nat.le_refl _) (Nat.le_refl _)).mono ?_
            rintro e w16 ⟨rfl, hb⟩
            clear ebP0 ebP1 ebP2 ebP3 zbP ebQ0 ebQ1 ebQ2 ebQ3 zbQ ebR0 ebR1 ebR2 ebR3 zbR
            replace PX := PX.all hb
            replace PY := PY.all hb
            replace QO := QO.all hb
            replace QW := QW.all hb
            replace bP := bP.all hb
            replace bQ := bQ.all hb
            replace bR := bR.all hb
            replace R := R.all hb HB.size
            replace HB := HB.trans (hb.mono HB.size)
            clear hb
            go_wp2
            go_ret
            exact ⟨ret_bool (by simp), HB⟩
          · skip
            clear OX OY bB
            go_wp2_with fail
            refine (drawAddStuff_any A n c w.heap.size _ R HB.size hn).mono ?_
            rintro e w13 ⟨B2, d2, ps, l, u, v, B3, d3, rs, s, z9, rfl, ⟨hpl, hrl, hl, hu, hv, hs, hz9⟩, own, own2, hb⟩
            replace R := R.all hb HB.size
            have PX := own.mono HB.size
            clear own
            have PY := own2.mono HB.size
            clear own2
            replace HB := HB.trans (hb.mono HB.size)
            clear hb
            replace PX := PX.alloc (.cells #[.int .i64 l, .int .i64 u, .int .i64 v, .slice B3 rs.length d3] 27)
            replace PY := PY.alloc (.cells #[.int .i64 l, .int .i64 u, .int .i64 v, .slice B3 rs.length d3] 27)
            replace R := R.alloc HB.size (.cells #[.int .i64 l, .int .i64 u, .int .i64 v, .slice B3 rs.length d3] 27)
            have bP := Blk.new w13 #[.int .i64 l, .int .i64 u, .int .i64 v, .slice B3 rs.length d3] 27
            replace HB := HB.alloc HB.size (.cells #[.int .i64 l, .int .i64 u, .int .i64 v, .slice B3 rs.length d3] 27)
            obtain ⟨aL, haL⟩ : ∃ z, addN ps l u v rs s z9 l = z := ⟨_, rfl⟩
            obtain ⟨aT, haT⟩ : ∃ z, addN ps l u v rs s z9 u = z := ⟨_, rfl⟩
            obtain ⟨aY, haY⟩ : ∃ z, addN ps l u v rs s z9 v = z := ⟨_, rfl⟩
            obtain ⟨ao, hao⟩ : ∃ z, addL ps l u v rs s z9 = z := ⟨_, rfl⟩
            obtain ⟨ab, hab⟩ : ∃ z, addB ps l u v rs s z9 = z := ⟨_, rfl⟩
            have hAi : Hid (∀ (w : World) (A : Option Addr) (c : Nat) (A' : Option Addr) (c' : Nat), RdF dyePartF w w.heap.size A ps.length c ps → Rd w w.heap.size A' rs.length c' rs → Calls Try.prog 17 #[.slice A ps.length c, bathV l u v (.slice A' rs.length c'), .string s, .int .i64 z9] w (OutBath w aL aT aY ao ab)) := Lib.hid fun w A c A' c' h h' => (by have := implAddStuff_any A _ c _ ps l u v A' _ c' _ rs s z9 w h (Nat.le_refl _) h' (Nat.le_refl _); rw [haL, haT, haY, hao, hab] at this; exact this)
            have hAs : Hid (∀ (w : World) (A : Option Addr) (c : Nat) (A' : Option Addr) (c' : Nat), RdF dyePartF w w.heap.size A ps.length c ps → Rd w w.heap.size A' rs.length c' rs → Calls Try.prog 19 #[.slice A ps.length c, bathV l u v (.slice A' rs.length c'), .string s, .int .i64 z9] w (OutBath w aL aT aY ao ab)) := Lib.hid fun w A c A' c' h h' => (by have := specAddStuff_any A _ c _ ps l u v A' _ c' _ rs s z9 w h (Nat.le_refl _) h' (Nat.le_refl _); rw [haL, haT, haY, hao, hab] at this; exact this)
            clear haL haT haY hao hab
            have ebP0 := bP.cell 0
            have ebP1 := bP.cell 1
            have ebP2 := bP.cell 2
            have ebP3 := bP.cell 3
            have zbP := bP.lt
            go_wp2_with fail
            refine (hAi.out _ _ _ _ _ PX.rd PY.rd).mono ?_
            rintro e w14 ⟨B4, d4, rfl, own, hb⟩
            clear ebP0 ebP1 ebP2 ebP3 zbP
            replace PX := PX.all hb
            replace PY := PY.all hb
            replace bP := bP.all hb
            replace R := R.all hb HB.size
            have QO := own.mono HB.size
            clear own
            replace HB := HB.trans (hb.mono HB.size)
            clear hb
            replace PX := PX.alloc (.cells #[.int .i64 aL, .int .i64 aT, .int .i64 aY, .slice B4 ao.length d4] 27)
            replace PY := PY.alloc (.cells #[.int .i64 aL, .int .i64 aT, .int .i64 aY, .slice B4 ao.length d4] 27)
            replace QO := QO.alloc (.cells #[.int .i64 aL, .int .i64 aT, .int .i64 aY, .slice B4 ao.length d4] 27)
            replace bP := bP.alloc (.cells #[.int .i64 aL, .int .i64 aT, .int .i64 aY, .slice B4 ao.length d4] 27)
            replace R := R.alloc HB.size (.cells #[.int .i64 aL, .int .i64 aT, .int .i64 aY, .slice B4 ao.length d4] 27)
            have bQ := Blk.new w14 #[.int .i64 aL, .int .i64 aT, .int .i64 aY, .slice B4 ao.length d4] 27
            replace HB := HB.alloc HB.size (.cells #[.int .i64 aL, .int .i64 aT, .int .i64 aY, .slice B4 ao.length d4] 27)
            have ebP0 := bP.cell 0
            have ebP1 := bP.cell 1
            have ebP2 := bP.cell 2
            have ebP3 := bP.cell 3
            have zbP := bP.lt
            have ebQ0 := bQ.cell 0
            have ebQ1 := bQ.cell 1
            have ebQ2 := bQ.cell 2
            have ebQ3 := bQ.cell 3
            have zbQ := bQ.lt
            go_wp2_with fail
            refine (hAs.out _ _ _ _ _ PX.rd PY.rd).mono ?_
            rintro e w15 ⟨B5, d5, rfl, own, hb⟩
            clear ebP0 ebP1 ebP2 ebP3 zbP ebQ0 ebQ1 ebQ2 ebQ3 zbQ
            replace PX := PX.all hb
            replace PY := PY.all hb
            replace QO := QO.all hb
            replace bP := bP.all hb
            replace bQ := bQ.all hb
            replace R := R.all hb HB.size
            have QW := own.mono HB.size
            clear own
            replace HB := HB.trans (hb.mono HB.size)
            clear hb
            replace PX := PX.alloc (.cells #[.int .i64 aL, .int .i64 aT, .int .i64 aY, .slice B5 ao.length d5] 27)
            replace PY := PY.alloc (.cells #[.int .i64 aL, .int .i64 aT, .int .i64 aY, .slice B5 ao.length d5] 27)
            replace QO := QO.alloc (.cells #[.int .i64 aL, .int .i64 aT, .int .i64 aY, .slice B5 ao.length d5] 27)
            replace QW := QW.alloc (.cells #[.int .i64 aL, .int .i64 aT, .int .i64 aY, .slice B5 ao.length d5] 27)
            replace bP := bP.alloc (.cells #[.int .i64 aL, .int .i64 aT, .int .i64 aY, .slice B5 ao.length d5] 27)
            replace bQ := bQ.alloc (.cells #[.int .i64 aL, .int .i64 aT, .int .i64 aY, .slice B5 ao.length d5] 27)
            replace R := R.alloc HB.size (.cells #[.int .i64 aL, .int .i64 aT, .int .i64 aY, .slice B5 ao.length d5] 27)
            have bR := Blk.new w15 #[.int .i64 aL, .int .i64 aT, .int .i64 aY, .slice B5 ao.length d5] 27
            replace HB := HB.alloc HB.size (.cells #[.int .i64 aL, .int .i64 aT, .int .i64 aY, .slice B5 ao.length d5] 27)
            clear hAi hAs
            have ebP0 := bP.cell 0
            have ebP1 := bP.cell 1
            have ebP2 := bP.cell 2
            have ebP3 := bP.cell 3
            have zbP := bP.lt
            have ebQ0 := bQ.cell 0
            have ebQ1 := bQ.cell 1
            have ebQ2 := bQ.cell 2
            have ebQ3 := bQ.cell 3
            have zbQ := bQ.lt
            have ebR0 := bR.cell 0
            have ebR1 := bR.cell 1
            have ebR2 := bR.cell 2
            have ebR3 := bR.cell 3
            have zbR := bR.lt
            go_wp2_with fail
            refine (rBath_same aL aT aY _ _ _ _ _ _ _ _ ao _ QO.rd QW.rd (Nat.le_refl _) (Nat.le_refl _)).mono ?_
            rintro e w16 ⟨rfl, hb⟩
            clear ebP0 ebP1 ebP2 ebP3 zbP ebQ0 ebQ1 ebQ2 ebQ3 zbQ ebR0 ebR1 ebR2 ebR3 zbR
            replace PX := PX.all hb
            replace PY := PY.all hb
            replace QO := QO.all hb
            replace QW := QW.all hb
            replace bP := bP.all hb
            replace bQ := bQ.all hb
            replace bR := bR.all hb
            replace R := R.all hb HB.size
            replace HB := HB.trans (hb.mono HB.size)
            clear hb
            go_wp2
            go_ret
            exact ⟨ret_bool (by simp), HB⟩
end Go.Proofs.Ytjlidgeeehlkcaa
