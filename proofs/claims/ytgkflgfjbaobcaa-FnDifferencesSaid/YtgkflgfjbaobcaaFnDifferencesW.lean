/- The walk of FnDifferences. No condition. -/
import Derived.Test.YtgkflgfjbaobcaaDraws13
import Derived.Test.YtgkflgfjbaobcaaDiffFn2
import Derived.Test.YtgkflgfjbaobcaaVSum
import Derived.Test.YtgkflgfjbaobcaaSwapI
import Derived.Test.YtgkflgfjbaobcaaSwapS
import Derived.Test.YtgkflgfjbaobcaaWrongT
import Derived.Deep.CutRange
namespace Go.Proofs.Ytgkflgfjbaobcaa
open Go.RowKit

set_option maxRecDepth 100000 in
set_option maxHeartbeats 16000000 in
theorem fnDifferences_walk (w : World) (A : Option Addr) (n c : Nat) (R : RdB w w.heap.size A n c) : Calls Try.prog 3 #[.slice A n c] w fun e w' => e = .returned (.bool true) ∧ Below w.heap.size w w' := by
  have hcap := R.cap
  have hmax := R.max
  unfold maxLen at hmax
  have HB := Below.refl w.heap.size w
  by_cases hn : n ≤ 65536
  rotate_left
  · go_enter Try.func3, Try.ntmps3
    go_wp2_with fail
    refine (vBig_eq A n c _ (by omega) true (by simp; omega)).mono ?_
    rintro e w' ⟨rfl, rfl⟩
    go_wp2
    go_ret
    exact ⟨rfl, HB⟩
  go_enter Try.func3, Try.ntmps3
  go_wp2_with fail
  refine (vBig_eq A n c _ (by omega) false (by simp; omega)).mono ?_
  rintro e w' ⟨rfl, rfl⟩
  go_wp2_with fail
  refine (drawDifferencesAt_any A n c w.heap.size _ R HB.size hn).mono ?_
  rintro e w1 ⟨W, H, A2, c2, xs, V, G, A3, c3, ys, d, a, rfl, hsm, hsm2, hd, ha, own, own2, hb⟩
  replace R := R.all hb HB.size
  have OX := own.mono HB.size
  clear own
  have OY := own2.mono HB.size
  clear own2
  replace HB := HB.trans (hb.mono HB.size)
  clear hb
  replace OX := (OX.alloc (.cells #[.int .i64 W, .int .i64 H, .slice A2 xs.length c2] 26)).alloc (.cells #[.int .i64 V, .int .i64 G, .slice A3 ys.length c3] 26)
  replace OY := (OY.alloc (.cells #[.int .i64 W, .int .i64 H, .slice A2 xs.length c2] 26)).alloc (.cells #[.int .i64 V, .int .i64 G, .slice A3 ys.length c3] 26)
  replace R := (R.alloc HB.size (.cells #[.int .i64 W, .int .i64 H, .slice A2 xs.length c2] 26)).alloc (Nat.le_trans HB.size (by simp)) (.cells #[.int .i64 V, .int .i64 G, .slice A3 ys.length c3] 26)
  have bP := (Blk.new w1 #[.int .i64 W, .int .i64 H, .slice A2 xs.length c2] 26).alloc (.cells #[.int .i64 V, .int .i64 G, .slice A3 ys.length c3] 26)
  have bQ := (Blk.new (w1.alloc (.cells #[.int .i64 W, .int .i64 H, .slice A2 xs.length c2] 26)) #[.int .i64 V, .int .i64 G, .slice A3 ys.length c3] 26).at_ (q := w1.heap.size + 1) (by simp)
  replace HB := (HB.alloc HB.size (.cells #[.int .i64 W, .int .i64 H, .slice A2 xs.length c2] 26)).alloc (Nat.le_trans HB.size (by simp)) (.cells #[.int .i64 V, .int .i64 G, .slice A3 ys.length c3] 26)
  obtain ⟨kn, hkn⟩ : ∃ vv, knX W H xs V G ys d a = vv := ⟨_, rfl⟩
  obtain ⟨ov, hov⟩ : ∃ vv, ovX W H xs V G ys d a = vv := ⟨_, rfl⟩
  obtain ⟨ok, hok⟩ : ∃ vv, okX W H xs V G ys d a = vv := ⟨_, rfl⟩
  obtain ⟨rw_, hrw_⟩ : ∃ vv, rwX W H xs V G ys d a = vv := ⟨_, rfl⟩
  have hwl : (wrX W H xs V G ys d a).length = kn.length := by rw [← hkn, knX_n]
  have hDi : Hid (∀ (w : World) (A : Option Addr) (c : Nat) (A' : Option Addr) (c' : Nat), Rd w w.heap.size A xs.length c xs → Rd w w.heap.size A' ys.length c' ys → Calls Try.prog 6 #[chartV W H (.slice A xs.length c), chartV V G (.slice A' ys.length c'), .int .i64 d, .int .i64 a] w (Out w (.tuple #[.int .i64 (kn.length : Nat), .int .i64 (ov : Nat), .bool ok]))) := Lib.hid fun w A c A' c' h h' => (by have := implDifferencesAt_any W H A _ c _ xs V G A' _ c' _ ys d a w h (Nat.le_refl _) h' (Nat.le_refl _); rw [hwl, hov, hok] at this; exact this)
  have hWi : Hid (∀ (w : World) (A : Option Addr) (c : Nat) (A' : Option Addr) (c' : Nat), Rd w w.heap.size A xs.length c xs → Rd w w.heap.size A' ys.length c' ys → Calls Try.prog 8 #[chartV W H (.slice A xs.length c), chartV V G (.slice A' ys.length c'), .int .i64 d, .int .i64 a] w (OutF pairF w kn ok)) := Lib.hid fun w A c A' c' h h' => (by have := implWrongKnots_any W H A _ c _ xs V G A' _ c' _ ys d a w h (Nat.le_refl _) h' (Nat.le_refl _); rw [hkn, hok] at this; exact this)
  have hRi : Hid (∀ (w : World) (A : Option Addr) (c : Nat) (A' : Option Addr) (c' : Nat), Rd w w.heap.size A xs.length c xs → Rd w w.heap.size A' ys.length c' ys → Calls Try.prog 11 #[chartV W H (.slice A xs.length c), chartV V G (.slice A' ys.length c'), .int .i64 d, .int .i64 a] w (OutInts w rw_ ok)) := Lib.hid fun w A c A' c' h h' => (by have := implWrongRows_any W H A _ c _ xs V G A' _ c' _ ys d a w h (Nat.le_refl _) h' (Nat.le_refl _); rw [hrw_, hok] at this; exact this)
  have hDs : Hid (∀ (w : World) (A : Option Addr) (c : Nat) (A' : Option Addr) (c' : Nat), Rd w w.heap.size A xs.length c xs → Rd w w.heap.size A' ys.length c' ys → Calls Try.prog 7 #[chartV W H (.slice A xs.length c), chartV V G (.slice A' ys.length c'), .int .i64 d, .int .i64 a] w (Out w (.tuple #[.int .i64 (kn.length : Nat), .int .i64 (ov : Nat), .bool ok]))) := Lib.hid fun w A c A' c' h h' => (by have := specDifferencesAt_any W H A _ c _ xs V G A' _ c' _ ys d a w h (Nat.le_refl _) h' (Nat.le_refl _); rw [hwl, hov, hok] at this; exact this)
  have hWs : Hid (∀ (w : World) (A : Option Addr) (c : Nat) (A' : Option Addr) (c' : Nat), Rd w w.heap.size A xs.length c xs → Rd w w.heap.size A' ys.length c' ys → Calls Try.prog 9 #[chartV W H (.slice A xs.length c), chartV V G (.slice A' ys.length c'), .int .i64 d, .int .i64 a] w (OutF pairF w kn ok)) := Lib.hid fun w A c A' c' h h' => (by have := specWrongKnots_any W H A _ c _ xs V G A' _ c' _ ys d a w h (Nat.le_refl _) h' (Nat.le_refl _); rw [hkn, hok] at this; exact this)
  have hRs : Hid (∀ (w : World) (A : Option Addr) (c : Nat) (A' : Option Addr) (c' : Nat), Rd w w.heap.size A xs.length c xs → Rd w w.heap.size A' ys.length c' ys → Calls Try.prog 12 #[chartV W H (.slice A xs.length c), chartV V G (.slice A' ys.length c'), .int .i64 d, .int .i64 a] w (OutInts w rw_ ok)) := Lib.hid fun w A c A' c' h h' => (by have := specWrongRows_any W H A _ c _ xs V G A' _ c' _ ys d a w h (Nat.le_refl _) h' (Nat.le_refl _); rw [hrw_, hok] at this; exact this)
  have hk64 : kn.length ≤ 64 := by rw [← hkn]; exact knX_len
  have HT : Hid (ok = true → (∀ (w : World) (A : Option Addr) (c : Nat), Rd w w.heap.size A xs.length c xs → Calls Try.prog 6 #[chartV W H (.slice A xs.length c), chartV W H (.slice A xs.length c), .int .i64 0, .int .i64 0] w (Out w (.tuple #[.int .i64 0, .int .i64 (xs.length : Nat), .bool true]))) ∧ (∀ (w : World) (A : Option Addr) (c : Nat) (A' : Option Addr) (c' : Nat), Rd w w.heap.size A ys.length c ys → Rd w w.heap.size A' xs.length c' xs → Calls Try.prog 6 #[chartV V G (.slice A ys.length c), chartV W H (.slice A' xs.length c'), .int .i64 (-d), .int .i64 (-a)] w (Out w (.tuple #[.int .i64 (kn.length : Nat), .int .i64 (ov : Nat), .bool true]))) ∧ kn.length ≤ ov ∧ rw_.sum = ((kn.length : Nat) : Int) ∧ rw_.length ≤ 64 ∧ ∀ y ∈ rw_, 0 ≤ y ∧ y ≤ 1000) := Lib.hid fun hh => by
    obtain ⟨f1, f2, f3, f4, f5, f6, f7, f8, f9, f10⟩ := fd_top (hok.trans hh)
    rw [hwl] at f5 f7 f8
    rw [hov] at f6 f8
    rw [hrw_] at f7 f9 f10
    refine ⟨fun w A c h => ?_, fun w A c A' c' h h' => ?_, f8, f7, f9, f10⟩
    · have := implDifferencesAt_any W H A _ c _ xs W H A _ c _ xs 0 0 w h (Nat.le_refl _) h (Nat.le_refl _)
      rw [f1, f2, f3] at this
      exact this
    · have := implDifferencesAt_any V G A _ c _ ys W H A' _ c' _ xs (-d) (-a) w h (Nat.le_refl _) h' (Nat.le_refl _)
      rw [f4, f5, f6] at this
      exact this
  have hwd : IntKind.i64.wrap (-d) = -d := IntWalk.i64_in _ (by omega)
  have hwa : IntKind.i64.wrap (-a) = -a := IntWalk.i64_in _ (by omega)
  have HWD := Lib.hid hwd
  have HWA := Lib.hid hwa
  clear hkn hov hok hrw_ hwl hsm hsm2 hd ha hwd hwa
  have hgg : (ok != ok) = false := by simp
  have ebP0 := bP.cell 0
  have ebP1 := bP.cell 1
  have ebP2 := bP.cell 2
  have zbP := bP.lt
  have ebQ0 := bQ.cell 0
  have ebQ1 := bQ.cell 1
  have ebQ2 := bQ.cell 2
  have zbQ := bQ.lt
  go_wp2_with fail
  refine (hDi.out _ _ _ _ _ OX.rd OY.rd).mono ?_
  rintro e w2 ⟨rfl, hb⟩
  clear ebP0 ebP1 ebP2 zbP ebQ0 ebQ1 ebQ2 zbQ
  replace OX := OX.all hb
  replace OY := OY.all hb
  replace bP := bP.all hb
  replace bQ := bQ.all hb
  replace R := R.all hb HB.size
  replace HB := HB.trans (hb.mono HB.size)
  clear hb
  have ebP0 := bP.cell 0
  have ebP1 := bP.cell 1
  have ebP2 := bP.cell 2
  have zbP := bP.lt
  have ebQ0 := bQ.cell 0
  have ebQ1 := bQ.cell 1
  have ebQ2 := bQ.cell 2
  have zbQ := bQ.lt
  go_wp2_with fail
  refine (hDs.out _ _ _ _ _ OX.rd OY.rd).mono ?_
  rintro e w3 ⟨rfl, hb⟩
  clear ebP0 ebP1 ebP2 zbP ebQ0 ebQ1 ebQ2 zbQ
  replace OX := OX.all hb
  replace OY := OY.all hb
  replace bP := bP.all hb
  replace bQ := bQ.all hb
  replace R := R.all hb HB.size
  replace HB := HB.trans (hb.mono HB.size)
  clear hb
  clear hDi hDs
  have ebP0 := bP.cell 0
  have ebP1 := bP.cell 1
  have ebP2 := bP.cell 2
  have zbP := bP.lt
  have ebQ0 := bQ.cell 0
  have ebQ1 := bQ.cell 1
  have ebQ2 := bQ.cell 2
  have zbQ := bQ.lt
  go_wp2_with fail
  refine (hWi.out _ _ _ _ _ OX.rd OY.rd).mono ?_
  rintro e w4 ⟨A4, c4, rfl, own, hb⟩
  clear ebP0 ebP1 ebP2 zbP ebQ0 ebQ1 ebQ2 zbQ
  replace OX := OX.all hb
  replace OY := OY.all hb
  replace bP := bP.all hb
  replace bQ := bQ.all hb
  replace R := R.all hb HB.size
  have OA := own.mono HB.size
  clear own
  replace HB := HB.trans (hb.mono HB.size)
  clear hb
  have ebP0 := bP.cell 0
  have ebP1 := bP.cell 1
  have ebP2 := bP.cell 2
  have zbP := bP.lt
  have ebQ0 := bQ.cell 0
  have ebQ1 := bQ.cell 1
  have ebQ2 := bQ.cell 2
  have zbQ := bQ.lt
  go_wp2_with fail
  refine (hWs.out _ _ _ _ _ OX.rd OY.rd).mono ?_
  rintro e w5 ⟨A5, c5, rfl, own, hb⟩
  clear ebP0 ebP1 ebP2 zbP ebQ0 ebQ1 ebQ2 zbQ
  replace OX := OX.all hb
  replace OY := OY.all hb
  replace OA := OA.all hb
  replace bP := bP.all hb
  replace bQ := bQ.all hb
  replace R := R.all hb HB.size
  have OB := own.mono HB.size
  clear own
  replace HB := HB.trans (hb.mono HB.size)
  clear hb
  clear hWi hWs
  have ebP0 := bP.cell 0
  have ebP1 := bP.cell 1
  have ebP2 := bP.cell 2
  have zbP := bP.lt
  have ebQ0 := bQ.cell 0
  have ebQ1 := bQ.cell 1
  have ebQ2 := bQ.cell 2
  have zbQ := bQ.lt
  go_wp2_with fail
  refine (vPairs_same _ _ _ _ _ _ _ _ kn _ OA.rd OB.rd (Nat.le_refl _) (Nat.le_refl _)).mono ?_
  rintro e w6 ⟨rfl, hb⟩
  clear ebP0 ebP1 ebP2 zbP ebQ0 ebQ1 ebQ2 zbQ
  replace OX := OX.all hb
  replace OY := OY.all hb
  replace OA := OA.all hb
  replace OB := OB.all hb
  replace bP := bP.all hb
  replace bQ := bQ.all hb
  replace R := R.all hb HB.size
  replace HB := HB.trans (hb.mono HB.size)
  clear hb
  clear OA OB
  have ebP0 := bP.cell 0
  have ebP1 := bP.cell 1
  have ebP2 := bP.cell 2
  have zbP := bP.lt
  have ebQ0 := bQ.cell 0
  have ebQ1 := bQ.cell 1
  have ebQ2 := bQ.cell 2
  have zbQ := bQ.lt
  go_wp2_with fail
  refine (hRi.out _ _ _ _ _ OX.rd OY.rd).mono ?_
  rintro e w7 ⟨A6, c6, rfl, own, hb⟩
  clear ebP0 ebP1 ebP2 zbP ebQ0 ebQ1 ebQ2 zbQ
  replace OX := OX.all hb
  replace OY := OY.all hb
  replace bP := bP.all hb
  replace bQ := bQ.all hb
  replace R := R.all hb HB.size
  have OR := own.mono HB.size
  clear own
  replace HB := HB.trans (hb.mono HB.size)
  clear hb
  have ebP0 := bP.cell 0
  have ebP1 := bP.cell 1
  have ebP2 := bP.cell 2
  have zbP := bP.lt
  have ebQ0 := bQ.cell 0
  have ebQ1 := bQ.cell 1
  have ebQ2 := bQ.cell 2
  have zbQ := bQ.lt
  go_wp2_with fail
  refine (hRs.out _ _ _ _ _ OX.rd OY.rd).mono ?_
  rintro e w8 ⟨A7, c7, rfl, own, hb⟩
  clear ebP0 ebP1 ebP2 zbP ebQ0 ebQ1 ebQ2 zbQ
  replace OX := OX.all hb
  replace OY := OY.all hb
  replace OR := OR.all hb
  replace bP := bP.all hb
  replace bQ := bQ.all hb
  replace R := R.all hb HB.size
  have OS := own.mono HB.size
  clear own
  replace HB := HB.trans (hb.mono HB.size)
  clear hb
  clear hRi hRs
  have ebP0 := bP.cell 0
  have ebP1 := bP.cell 1
  have ebP2 := bP.cell 2
  have zbP := bP.lt
  have ebQ0 := bQ.cell 0
  have ebQ1 := bQ.cell 1
  have ebQ2 := bQ.cell 2
  have zbQ := bQ.lt
  go_wp2_with fail
  refine (vInts_low _ _ _ _ _ _ _ _ rw_ _ OR.rd OS.rd).mono ?_
  rintro e w9 ⟨rfl, hb⟩
  clear ebP0 ebP1 ebP2 zbP ebQ0 ebQ1 ebQ2 zbQ
  replace OX := OX.all hb
  replace OY := OY.all hb
  replace OR := OR.all hb
  replace OS := OS.all hb
  replace bP := bP.all hb
  replace bQ := bQ.all hb
  replace R := R.all hb HB.size
  replace HB := HB.trans (hb.mono HB.size)
  clear hb
  clear OS
  go_upto_if 136 with fail
  go_cut [] from 137 to 198 (fun wx => RdB wx w.heap.size A n c ∧ Below w.heap.size w wx)
  case first =>
    clear hgg
    cases ok
    case false =>
      clear HT
      go_wp2
      go_meet
      exact ⟨R, HB⟩
    case true =>
      obtain ⟨h1, h2, hle, hsum, hrl, hry⟩ := HT.out rfl
      have H1 := Lib.hid h1
      have H2 := Lib.hid h2
      have HV := Lib.hid hsum
      have HY := Lib.hid hry
      clear HT h1 h2 hsum hry
      have ebP0 := bP.cell 0
      have ebP1 := bP.cell 1
      have ebP2 := bP.cell 2
      have zbP := bP.lt
      have ebQ0 := bQ.cell 0
      have ebQ1 := bQ.cell 1
      have ebQ2 := bQ.cell 2
      have zbQ := bQ.lt
      go_wp2_with fail
      refine (H1.out _ _ _ OX.rd).mono ?_
      rintro e w10 ⟨rfl, hb⟩
      clear ebP0 ebP1 ebP2 zbP ebQ0 ebQ1 ebQ2 zbQ
      replace OX := OX.all hb
      replace OY := OY.all hb
      replace OR := OR.all hb
      replace bP := bP.all hb
      replace bQ := bQ.all hb
      replace R := R.all hb HB.size
      replace HB := HB.trans (hb.mono HB.size)
      clear hb
      have hwd := HWD.out
      have hwa := HWA.out
      have ebP0 := bP.cell 0
      have ebP1 := bP.cell 1
      have ebP2 := bP.cell 2
      have zbP := bP.lt
      have ebQ0 := bQ.cell 0
      have ebQ1 := bQ.cell 1
      have ebQ2 := bQ.cell 2
      have zbQ := bQ.lt
      go_wp2_with fail
      refine (H2.out _ _ _ _ _ OY.rd OX.rd).mono ?_
      rintro e w11 ⟨rfl, hb⟩
      clear ebP0 ebP1 ebP2 zbP ebQ0 ebQ1 ebQ2 zbQ
      replace OX := OX.all hb
      replace OY := OY.all hb
      replace OR := OR.all hb
      replace bP := bP.all hb
      replace bQ := bQ.all hb
      replace R := R.all hb HB.size
      replace HB := HB.trans (hb.mono HB.size)
      clear hb
      clear hwd hwa H1 H2 HWD HWA
      have hleI : ((kn.length : Nat) : Int) ≤ ((ov : Nat) : Int) := by omega
      have hrs := OR.rd
      have e2 := bP.cell 2
      have zP := bP.lt
      go_wp2_with ((go_at_call 14; (with_reducible refine (vSum12 _ _ _ _ rw_ _ _ hrs (by omega) HY HV).mono ?_); rintro e w' ⟨rfl, rfl⟩))
      go_meet
      exact ⟨R, HB⟩
  case rest =>
    clear HT hgg HWD HWA hk64
    clear OX OY OR bP bQ
    clear R HB
    obtain ⟨R, HB⟩ := hcut
    go_wp2_with fail
    refine (drawSwappedColors_any A n c w.heap.size _ R HB.size hn).mono ?_
    rintro e w10 ⟨W4, H4, A8, c8, us, V4, G4, A9, c9, vs, rfl, hsm, hsm2, own, own2, hb⟩
    replace R := R.all hb HB.size
    have OU := own.mono HB.size
    clear own
    have OV := own2.mono HB.size
    clear own2
    replace HB := HB.trans (hb.mono HB.size)
    clear hb
    replace OU := (OU.alloc (.cells #[.int .i64 W4, .int .i64 H4, .slice A8 us.length c8] 26)).alloc (.cells #[.int .i64 V4, .int .i64 G4, .slice A9 vs.length c9] 26)
    replace OV := (OV.alloc (.cells #[.int .i64 W4, .int .i64 H4, .slice A8 us.length c8] 26)).alloc (.cells #[.int .i64 V4, .int .i64 G4, .slice A9 vs.length c9] 26)
    replace R := (R.alloc HB.size (.cells #[.int .i64 W4, .int .i64 H4, .slice A8 us.length c8] 26)).alloc (Nat.le_trans HB.size (by simp)) (.cells #[.int .i64 V4, .int .i64 G4, .slice A9 vs.length c9] 26)
    have bU := (Blk.new w10 #[.int .i64 W4, .int .i64 H4, .slice A8 us.length c8] 26).alloc (.cells #[.int .i64 V4, .int .i64 G4, .slice A9 vs.length c9] 26)
    have bV := (Blk.new (w10.alloc (.cells #[.int .i64 W4, .int .i64 H4, .slice A8 us.length c8] 26)) #[.int .i64 V4, .int .i64 G4, .slice A9 vs.length c9] 26).at_ (q := w10.heap.size + 1) (by simp)
    replace HB := (HB.alloc HB.size (.cells #[.int .i64 W4, .int .i64 H4, .slice A8 us.length c8] 26)).alloc (Nat.le_trans HB.size (by simp)) (.cells #[.int .i64 V4, .int .i64 G4, .slice A9 vs.length c9] 26)
    obtain ⟨sw, hsw⟩ : ∃ vv, swX W4 H4 us V4 G4 vs = vv := ⟨_, rfl⟩
    obtain ⟨sb, hsb⟩ : ∃ vv, sizeB W4 H4 us V4 G4 vs = vv := ⟨_, rfl⟩
    have hSi : Hid (∀ (w : World) (A : Option Addr) (c : Nat) (A' : Option Addr) (c' : Nat), Rd w w.heap.size A us.length c us → Rd w w.heap.size A' vs.length c' vs → Calls Try.prog 16 #[chartV W4 H4 (.slice A us.length c), chartV V4 G4 (.slice A' vs.length c')] w (OutF pairF w sw sb)) := Lib.hid fun w A c A' c' h h' => (by have := implSwappedColors_any W4 H4 A _ c _ us V4 G4 A' _ c' _ vs w h (Nat.le_refl _) h' (Nat.le_refl _); rw [hsw, hsb] at this; exact this)
    have hSs : Hid (∀ (w : World) (A : Option Addr) (c : Nat) (A' : Option Addr) (c' : Nat), Rd w w.heap.size A us.length c us → Rd w w.heap.size A' vs.length c' vs → Calls Try.prog 17 #[chartV W4 H4 (.slice A us.length c), chartV V4 G4 (.slice A' vs.length c')] w (OutF pairF w sw sb)) := Lib.hid fun w A c A' c' h h' => (by have := specSwappedColors_any W4 H4 A _ c _ us V4 G4 A' _ c' _ vs w h (Nat.le_refl _) h' (Nat.le_refl _); rw [hsw, hsb] at this; exact this)
    have HT : Hid (sb = true → ∃ m o : Nat, (∀ (w : World) (A : Option Addr) (c : Nat) (A' : Option Addr) (c' : Nat), Rd w w.heap.size A us.length c us → Rd w w.heap.size A' vs.length c' vs → Calls Try.prog 6 #[chartV W4 H4 (.slice A us.length c), chartV V4 G4 (.slice A' vs.length c'), .int .i64 0, .int .i64 0] w (Out w (.tuple #[.int .i64 (m : Nat), .int .i64 (o : Nat), .bool true]))) ∧ (m = 0 ↔ sw.length = 0) ∧ m ≤ 64 ∧ sw.length ≤ 64) := Lib.hid fun hh => by
      obtain ⟨f1, f2⟩ := sw_wr (hsb.trans hh)
      rw [hsw] at f2
      have f3 := swX_len (W0 := W4) (H0 := H4) (W1 := V4) (H1 := G4) (xs0 := us) (xs1 := vs)
      rw [hsw] at f3
      refine ⟨_, ovX W4 H4 us V4 G4 vs 0 0, fun w A c A' c' h h' => ?_, f2, wrX_len, by omega⟩
      have := implDifferencesAt_any W4 H4 A _ c _ us V4 G4 A' _ c' _ vs 0 0 w h (Nat.le_refl _) h' (Nat.le_refl _)
      rw [f1] at this
      exact this
    clear hsw hsb hsm hsm2
    have hgg : (sb != sb) = false := by simp
    have ebU0 := bU.cell 0
    have ebU1 := bU.cell 1
    have ebU2 := bU.cell 2
    have zbU := bU.lt
    have ebV0 := bV.cell 0
    have ebV1 := bV.cell 1
    have ebV2 := bV.cell 2
    have zbV := bV.lt
    go_wp2_with fail
    refine (hSi.out _ _ _ _ _ OU.rd OV.rd).mono ?_
    rintro e w11 ⟨A10, c10, rfl, own, hb⟩
    clear ebU0 ebU1 ebU2 zbU ebV0 ebV1 ebV2 zbV
    replace OU := OU.all hb
    replace OV := OV.all hb
    replace bU := bU.all hb
    replace bV := bV.all hb
    replace R := R.all hb HB.size
    have OA := own.mono HB.size
    clear own
    replace HB := HB.trans (hb.mono HB.size)
    clear hb
    have ebU0 := bU.cell 0
    have ebU1 := bU.cell 1
    have ebU2 := bU.cell 2
    have zbU := bU.lt
    have ebV0 := bV.cell 0
    have ebV1 := bV.cell 1
    have ebV2 := bV.cell 2
    have zbV := bV.lt
    go_wp2_with fail
    refine (hSs.out _ _ _ _ _ OU.rd OV.rd).mono ?_
    rintro e w12 ⟨A11, c11, rfl, own, hb⟩
    clear ebU0 ebU1 ebU2 zbU ebV0 ebV1 ebV2 zbV
    replace OU := OU.all hb
    replace OV := OV.all hb
    replace OA := OA.all hb
    replace bU := bU.all hb
    replace bV := bV.all hb
    replace R := R.all hb HB.size
    have OB := own.mono HB.size
    clear own
    replace HB := HB.trans (hb.mono HB.size)
    clear hb
    clear hSi hSs
    have ebU0 := bU.cell 0
    have ebU1 := bU.cell 1
    have ebU2 := bU.cell 2
    have zbU := bU.lt
    have ebV0 := bV.cell 0
    have ebV1 := bV.cell 1
    have ebV2 := bV.cell 2
    have zbV := bV.lt
    go_wp2_with fail
    refine (vPairs_same _ _ _ _ _ _ _ _ sw _ OA.rd OB.rd (Nat.le_refl _) (Nat.le_refl _)).mono ?_
    rintro e w13 ⟨rfl, hb⟩
    clear ebU0 ebU1 ebU2 zbU ebV0 ebV1 ebV2 zbV
    replace OU := OU.all hb
    replace OV := OV.all hb
    replace OA := OA.all hb
    replace OB := OB.all hb
    replace bU := bU.all hb
    replace bV := bV.all hb
    replace R := R.all hb HB.size
    replace HB := HB.trans (hb.mono HB.size)
    clear hb
    clear OA OB
    clear hgg
    cases sb
    case false =>
      clear HT
      go_wp2
      go_ret
      exact ⟨ret_bool (by simp), HB⟩
    case true =>
      obtain ⟨m, o, h1, h2, h3, h4⟩ := HT.out rfl
      have H1 := Lib.hid h1
      have HQ := Lib.hid (dec_swap h2)
      clear HT h1 h2
      have ebU0 := bU.cell 0
      have ebU1 := bU.cell 1
      have ebU2 := bU.cell 2
      have zbU := bU.lt
      have ebV0 := bV.cell 0
      have ebV1 := bV.cell 1
      have ebV2 := bV.cell 2
      have zbV := bV.lt
      go_wp2_with fail
      refine (H1.out _ _ _ _ _ OU.rd OV.rd).mono ?_
      rintro e w14 ⟨rfl, hb⟩
      clear ebU0 ebU1 ebU2 zbU ebV0 ebV1 ebV2 zbV
      replace OU := OU.all hb
      replace OV := OV.all hb
      replace bU := bU.all hb
      replace bV := bV.all hb
      replace R := R.all hb HB.size
      replace HB := HB.trans (hb.mono HB.size)
      clear hb
      clear H1
      have hQ := HQ.out
      go_wp2
      go_ret
      exact ⟨ret_bool (by simp), HB⟩
end Go.Proofs.Ytgkflgfjbaobcaa
