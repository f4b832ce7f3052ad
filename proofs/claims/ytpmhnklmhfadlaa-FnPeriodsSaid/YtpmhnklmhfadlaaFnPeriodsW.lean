/- The walk of the law FnPeriods. No condition. -/
import Derived.Test.YtpmhnklmhfadlaaDraws6P
import Derived.Test.YtpmhnklmhfadlaaMgRep
import Derived.Deep.CutRange
import Derived.Test.YtpmhnklmhfadlaaMgPj
import Derived.Test.YtpmhnklmhfadlaaMotS
import Derived.Test.YtpmhnklmhfadlaaPerT
import Derived.Test.YtpmhnklmhfadlaaApartP
import Derived.Test.YtpmhnklmhfadlaaMgPlaces
import Derived.Test.YtpmhnklmhfadlaaAnyP
namespace Go.Proofs.Ytpmhnklmhfadlaa
open Go.RowKit

set_option maxRecDepth 100000 in
set_option maxHeartbeats 16000000 in
theorem fnPeriods_walk (w : World) (A : Option Addr) (n c : Nat) (R : RdB w w.heap.size A n c) : Calls Try.prog 3 #[.slice A n c] w fun e w' => e = .returned (.bool true) ∧ Below w.heap.size w w' := by
  have hcap := R.cap
  have hmax := R.max
  unfold maxLen at hmax
  have HB := Below.refl w.heap.size w
  by_cases hn : n ≤ 65536
  · go_enter Try.func3, Try.ntmps3
    go_wp2_with fail
    refine (vBig_eq A n c _ (by omega) false (by simp; omega)).mono ?_
    rintro e w' ⟨rfl, rfl⟩
    go_wp2_with fail
    refine (drawSmallestMotif_any A n c w.heap.size _ R HB.size hn).mono ?_
    rintro e w1 ⟨W, H, A2, c2, xs, rfl, hsm, own, hb⟩
    replace R := R.all hb HB.size
    have OX := own.mono HB.size
    clear own
    replace HB := HB.trans (hb.mono HB.size)
    clear hb
    replace OX := OX.alloc (.cells #[.int .i64 W, .int .i64 H, .slice A2 xs.length c2] 26)
    replace R := R.alloc HB.size (.cells #[.int .i64 W, .int .i64 H, .slice A2 xs.length c2] 26)
    have bX := Blk.new w1 #[.int .i64 W, .int .i64 H, .slice A2 xs.length c2] 26
    replace HB := HB.alloc HB.size (.cells #[.int .i64 W, .int .i64 H, .slice A2 xs.length c2] 26)
    clear hsm
    obtain ⟨ok, hok⟩ : ∃ z, goodB W H xs = z := ⟨_, rfl⟩
    obtain ⟨pA, hpA⟩ : ∃ z, perAN W H xs = z := ⟨_, rfl⟩
    obtain ⟨pD, hpD⟩ : ∃ z, perDN W H xs = z := ⟨_, rfl⟩
    obtain ⟨sx, hsx⟩ : ∃ z, motX W H xs = z := ⟨_, rfl⟩
    obtain ⟨sW, hsW⟩ : ∃ z, orZero (goodB W H xs) (divA W.toNat H.toNat xs) = z := ⟨_, rfl⟩
    obtain ⟨sH, hsH⟩ : ∃ z, orZero (goodB W H xs) (divD W.toNat H.toNat xs) = z := ⟨_, rfl⟩
    have hSi : Hid (∀ (w : World) (A : Option Addr) (c : Nat), Rd w w.heap.size A xs.length c xs → Calls Try.prog 6 #[chartV W H (.slice A xs.length c)] w (OutChart w sW sH sx ok)) := Lib.hid fun w A c hrd => (by have := implSmallestMotif_any W H A _ c _ xs w hrd (Nat.le_refl _); rw [hsW, hsH, hsx, hok] at this; exact this)
    have hAi : Hid (∀ (w : World) (A : Option Addr) (c : Nat), Rd w w.heap.size A xs.length c xs → Calls Try.prog 9 #[chartV W H (.slice A xs.length c)] w (Out w (.tuple #[.int .i64 pA, .bool ok]))) := Lib.hid fun w A c hrd => (by have := implPeriodAcross_any W H A _ c _ xs w hrd (Nat.le_refl _); rw [hpA, hok] at this; exact this)
    have hDi : Hid (∀ (w : World) (A : Option Addr) (c : Nat), Rd w w.heap.size A xs.length c xs → Calls Try.prog 11 #[chartV W H (.slice A xs.length c)] w (Out w (.tuple #[.int .i64 pD, .bool ok]))) := Lib.hid fun w A c hrd => (by have := implPeriodDown_any W H A _ c _ xs w hrd (Nat.le_refl _); rw [hpD, hok] at this; exact this)
    have hSs : Hid (∀ (w : World) (A : Option Addr) (c : Nat), Rd w w.heap.size A xs.length c xs → Calls Try.prog 7 #[chartV W H (.slice A xs.length c)] w (OutChart w sW sH sx ok)) := Lib.hid fun w A c hrd => (by have := specSmallestMotif_any W H A _ c _ xs w hrd (Nat.le_refl _); rw [hsW, hsH, hsx, hok] at this; exact this)
    have hAs : Hid (∀ (w : World) (A : Option Addr) (c : Nat), Rd w w.heap.size A xs.length c xs → Calls Try.prog 10 #[chartV W H (.slice A xs.length c)] w (Out w (.tuple #[.int .i64 pA, .bool ok]))) := Lib.hid fun w A c hrd => (by have := specPeriodAcross_any W H A _ c _ xs w hrd (Nat.le_refl _); rw [hpA, hok] at this; exact this)
    have hDs : Hid (∀ (w : World) (A : Option Addr) (c : Nat), Rd w w.heap.size A xs.length c xs → Calls Try.prog 12 #[chartV W H (.slice A xs.length c)] w (Out w (.tuple #[.int .i64 pD, .bool ok]))) := Lib.hid fun w A c hrd => (by have := specPeriodDown_any W H A _ c _ xs w hrd (Nat.le_refl _); rw [hpD, hok] at this; exact this)
    have HMF : Hid (ok = true → ∃ qa qd : Int, MotFacts W H xs sx sW sH qa qd pA pD) := Lib.hid fun ht => by
      have hg := hok.trans ht
      obtain ⟨qa, qd, mf⟩ := mot_facts hg
      rw [hg] at hsW hsH
      simp only [orZero, if_true] at hsW hsH
      rw [hsW, hsH, hsx, hpA, hpD] at mf
      exact ⟨qa, qd, mf⟩
    clear hok hpA hpD hsx hsW hsH
    have ebX0 := bX.cell 0
    have ebX1 := bX.cell 1
    have ebX2 := bX.cell 2
    have zbX := bX.lt
    go_wp2_with fail
    refine (hSi.out _ _ _ OX.rd).mono ?_
    rintro e w2 ⟨A3, c3, rfl, own, hb⟩
    clear ebX0 ebX1 ebX2 zbX
    replace OX := OX.all hb
    replace bX := bX.all hb
    replace R := R.all hb HB.size
    have OA := own.mono HB.size
    clear own
    replace HB := HB.trans (hb.mono HB.size)
    clear hb
    replace OX := OX.alloc (.cells #[.int .i64 sW, .int .i64 sH, .slice A3 sx.length c3] 26)
    replace OA := OA.alloc (.cells #[.int .i64 sW, .int .i64 sH, .slice A3 sx.length c3] 26)
    replace bX := bX.alloc (.cells #[.int .i64 sW, .int .i64 sH, .slice A3 sx.length c3] 26)
    replace R := R.alloc HB.size (.cells #[.int .i64 sW, .int .i64 sH, .slice A3 sx.length c3] 26)
    have bA := Blk.new w2 #[.int .i64 sW, .int .i64 sH, .slice A3 sx.length c3] 26
    replace HB := HB.alloc HB.size (.cells #[.int .i64 sW, .int .i64 sH, .slice A3 sx.length c3] 26)
    have ebX0 := bX.cell 0
    have ebX1 := bX.cell 1
    have ebX2 := bX.cell 2
    have zbX := bX.lt
    have ebA0 := bA.cell 0
    have ebA1 := bA.cell 1
    have ebA2 := bA.cell 2
    have zbA := bA.lt
    go_wp2_with fail
    refine (hSs.out _ _ _ OX.rd).mono ?_
    rintro e w3 ⟨A4, c4, rfl, own, hb⟩
    clear ebX0 ebX1 ebX2 zbX ebA0 ebA1 ebA2 zbA
    replace OX := OX.all hb
    replace OA := OA.all hb
    replace bX := bX.all hb
    replace bA := bA.all hb
    replace R := R.all hb HB.size
    have OB := own.mono HB.size
    clear own
    replace HB := HB.trans (hb.mono HB.size)
    clear hb
    replace OX := OX.alloc (.cells #[.int .i64 sW, .int .i64 sH, .slice A4 sx.length c4] 26)
    replace OA := OA.alloc (.cells #[.int .i64 sW, .int .i64 sH, .slice A4 sx.length c4] 26)
    replace OB := OB.alloc (.cells #[.int .i64 sW, .int .i64 sH, .slice A4 sx.length c4] 26)
    replace bX := bX.alloc (.cells #[.int .i64 sW, .int .i64 sH, .slice A4 sx.length c4] 26)
    replace bA := bA.alloc (.cells #[.int .i64 sW, .int .i64 sH, .slice A4 sx.length c4] 26)
    replace R := R.alloc HB.size (.cells #[.int .i64 sW, .int .i64 sH, .slice A4 sx.length c4] 26)
    have bB := Blk.new w3 #[.int .i64 sW, .int .i64 sH, .slice A4 sx.length c4] 26
    replace HB := HB.alloc HB.size (.cells #[.int .i64 sW, .int .i64 sH, .slice A4 sx.length c4] 26)
    have ebX0 := bX.cell 0
    have ebX1 := bX.cell 1
    have ebX2 := bX.cell 2
    have zbX := bX.lt
    have ebA0 := bA.cell 0
    have ebA1 := bA.cell 1
    have ebA2 := bA.cell 2
    have zbA := bA.lt
    have ebB0 := bB.cell 0
    have ebB1 := bB.cell 1
    have ebB2 := bB.cell 2
    have zbB := bB.lt
    go_wp2_with fail
    refine (vChart_same sW sH _ _ _ _ _ _ _ _ sx _ OA.rd OB.rd (Nat.le_refl _) (Nat.le_refl _)).mono ?_
    rintro e w4 ⟨rfl, hb⟩
    clear ebX0 ebX1 ebX2 zbX ebA0 ebA1 ebA2 zbA ebB0 ebB1 ebB2 zbB
    replace OX := OX.all hb
    replace OA := OA.all hb
    replace OB := OB.all hb
    replace bX := bX.all hb
    replace bA := bA.all hb
    replace bB := bB.all hb
    replace R := R.all hb HB.size
    replace HB := HB.trans (hb.mono HB.size)
    clear hb
    clear hSi hSs
    clear OB bB
    have ebX0 := bX.cell 0
    have ebX1 := bX.cell 1
    have ebX2 := bX.cell 2
    have zbX := bX.lt
    have ebA0 := bA.cell 0
    have ebA1 := bA.cell 1
    have ebA2 := bA.cell 2
    have zbA := bA.lt
    go_wp2_with fail
    refine (hAi.out _ _ _ OX.rd).mono ?_
    rintro e w5 ⟨rfl, hb⟩
    clear ebX0 ebX1 ebX2 zbX ebA0 ebA1 ebA2 zbA
    replace OX := OX.all hb
    replace OA := OA.all hb
    replace bX := bX.all hb
    replace bA := bA.all hb
    replace R := R.all hb HB.size
    replace HB := HB.trans (hb.mono HB.size)
    clear hb
    have ebX0 := bX.cell 0
    have ebX1 := bX.cell 1
    have ebX2 := bX.cell 2
    have zbX := bX.lt
    have ebA0 := bA.cell 0
    have ebA1 := bA.cell 1
    have ebA2 := bA.cell 2
    have zbA := bA.lt
    go_wp2_with fail
    refine (hAs.out _ _ _ OX.rd).mono ?_
    rintro e w6 ⟨rfl, hb⟩
    clear ebX0 ebX1 ebX2 zbX ebA0 ebA1 ebA2 zbA
    replace OX := OX.all hb
    replace OA := OA.all hb
    replace bX := bX.all hb
    replace bA := bA.all hb
    replace R := R.all hb HB.size
    replace HB := HB.trans (hb.mono HB.size)
    clear hb
    have ebX0 := bX.cell 0
    have ebX1 := bX.cell 1
    have ebX2 := bX.cell 2
    have zbX := bX.lt
    have ebA0 := bA.cell 0
    have ebA1 := bA.cell 1
    have ebA2 := bA.cell 2
    have zbA := bA.lt
    go_wp2_with fail
    refine (hDi.out _ _ _ OX.rd).mono ?_
    rintro e w7 ⟨rfl, hb⟩
    clear ebX0 ebX1 ebX2 zbX ebA0 ebA1 ebA2 zbA
    replace OX := OX.all hb
    replace OA := OA.all hb
    replace bX := bX.all hb
    replace bA := bA.all hb
    replace R := R.all hb HB.size
    replace HB := HB.trans (hb.mono HB.size)
    clear hb
    have ebX0 := bX.cell 0
    have ebX1 := bX.cell 1
    have ebX2 := bX.cell 2
    have zbX := bX.lt
    have ebA0 := bA.cell 0
    have ebA1 := bA.cell 1
    have ebA2 := bA.cell 2
    have zbA := bA.lt
    go_wp2_with fail
    refine (hDs.out _ _ _ OX.rd).mono ?_
    rintro e w8 ⟨rfl, hb⟩
    clear ebX0 ebX1 ebX2 zbX ebA0 ebA1 ebA2 zbA
    replace OX := OX.all hb
    replace OA := OA.all hb
    replace bX := bX.all hb
    replace bA := bA.all hb
    replace R := R.all hb HB.size
    replace HB := HB.trans (hb.mono HB.size)
    clear hb
    clear hAi hAs hDi hDs
    cases ok
    · clear HMF
      clear OX OA bX bA
      have hzp := HB.size
      go_wp2_with fail
      refine (drawPlacesOf_any A n c w.heap.size _ R HB.size hn).mono ?_
      rintro e w9 ⟨W, H, A2, c2, xs, V, U, A3, c3, ys, rfl, hsm, hsm2, own, own2, hb⟩
      replace R := R.all hb HB.size
      have OX := own.mono hzp
      have OY := own2.mono hzp
      clear own own2 hsm hsm2
      replace HB := HB.trans (hb.mono HB.size)
      clear hb hzp
      replace OX := OX.alloc (.cells #[.int .i64 W, .int .i64 H, .slice A2 xs.length c2] 26)
      replace OY := OY.alloc (.cells #[.int .i64 W, .int .i64 H, .slice A2 xs.length c2] 26)
      replace R := R.alloc HB.size (.cells #[.int .i64 W, .int .i64 H, .slice A2 xs.length c2] 26)
      have bX := Blk.new w9 #[.int .i64 W, .int .i64 H, .slice A2 xs.length c2] 26
      replace HB := HB.alloc HB.size (.cells #[.int .i64 W, .int .i64 H, .slice A2 xs.length c2] 26)
      replace OX := OX.alloc (.cells #[.int .i64 V, .int .i64 U, .slice A3 ys.length c3] 26)
      replace OY := OY.alloc (.cells #[.int .i64 V, .int .i64 U, .slice A3 ys.length c3] 26)
      replace bX := bX.alloc (.cells #[.int .i64 V, .int .i64 U, .slice A3 ys.length c3] 26)
      replace R := R.alloc HB.size (.cells #[.int .i64 V, .int .i64 U, .slice A3 ys.length c3] 26)
      have bY := Blk.new (w9.alloc (.cells #[.int .i64 W, .int .i64 H, .slice A2 xs.length c2] 26)) #[.int .i64 V, .int .i64 U, .slice A3 ys.length c3] 26
      replace HB := HB.alloc HB.size (.cells #[.int .i64 V, .int .i64 U, .slice A3 ys.length c3] 26)
      replace bY := bY.at_ (q := w9.heap.size + 1) (by simp)
      obtain ⟨t, ht⟩ : ∃ z, twoOk W H xs V U ys = z := ⟨_, rfl⟩
      obtain ⟨P, hP⟩ : ∃ z, placesX W H xs V U ys = z := ⟨_, rfl⟩
      obtain ⟨ap, hap⟩ : ∃ z, apartN W H xs V U ys = z := ⟨_, rfl⟩
      obtain ⟨an, han⟩ : ∃ z, anyN W H xs V U ys = z := ⟨_, rfl⟩
      have HPF := Lib.hid (place_facts W H xs V U ys)
      rw [ht, hP, hap, han] at HPF
      have hPi : Hid (∀ (w : World) (A : Option Addr) (c : Nat) (A' : Option Addr) (c' : Nat), Rd w w.heap.size A xs.length c xs → Rd w w.heap.size A' ys.length c' ys → Calls Try.prog 15 #[chartV W H (.slice A xs.length c), chartV V U (.slice A' ys.length c')] w (OutF pairF w P t)) := Lib.hid fun w A c A' c' hrd h' => (by have := implPlacesOf_any W H A _ c _ xs V U A' _ c' _ ys w hrd h' (Nat.le_refl _) (Nat.le_refl _); rw [hP, ht] at this; exact this)
      have hLi : Hid (∀ (w : World) (A : Option Addr) (c : Nat) (A' : Option Addr) (c' : Nat), Rd w w.heap.size A xs.length c xs → Rd w w.heap.size A' ys.length c' ys → Calls Try.prog 18 #[chartV W H (.slice A xs.length c), chartV V U (.slice A' ys.length c')] w (Out w (.tuple #[.int .i64 ap, .bool t]))) := Lib.hid fun w A c A' c' hrd h' => (by have := implApartPlaces_any W H A _ c _ xs V U A' _ c' _ ys w hrd h' (Nat.le_refl _) (Nat.le_refl _); rw [hap, ht] at this; exact this)
      have hYi : Hid (∀ (w : World) (A : Option Addr) (c : Nat) (A' : Option Addr) (c' : Nat), Rd w w.heap.size A xs.length c xs → Rd w w.heap.size A' ys.length c' ys → Calls Try.prog 20 #[chartV W H (.slice A xs.length c), chartV V U (.slice A' ys.length c')] w (Out w (.tuple #[.int .i64 an, .bool t]))) := Lib.hid fun w A c A' c' hrd h' => (by have := implAnyWayPlaces_any W H A _ c _ xs V U A' _ c' _ ys w hrd h' (Nat.le_refl _) (Nat.le_refl _); rw [han, ht] at this; exact this)
      have hPs : Hid (∀ (w : World) (A : Option Addr) (c : Nat) (A' : Option Addr) (c' : Nat), Rd w w.heap.size A xs.length c xs → Rd w w.heap.size A' ys.length c' ys → Calls Try.prog 16 #[chartV W H (.slice A xs.length c), chartV V U (.slice A' ys.length c')] w (OutF pairF w P t)) := Lib.hid fun w A c A' c' hrd h' => (by have := specPlacesOf_any W H A _ c _ xs V U A' _ c' _ ys w hrd h' (Nat.le_refl _) (Nat.le_refl _); rw [hP, ht] at this; exact this)
      have hLs : Hid (∀ (w : World) (A : Option Addr) (c : Nat) (A' : Option Addr) (c' : Nat), Rd w w.heap.size A xs.length c xs → Rd w w.heap.size A' ys.length c' ys → Calls Try.prog 19 #[chartV W H (.slice A xs.length c), chartV V U (.slice A' ys.length c')] w (Out w (.tuple #[.int .i64 ap, .bool t]))) := Lib.hid fun w A c A' c' hrd h' => (by have := specApartPlaces_any W H A _ c _ xs V U A' _ c' _ ys w hrd h' (Nat.le_refl _) (Nat.le_refl _); rw [hap, ht] at this; exact this)
      have hYs : Hid (∀ (w : World) (A : Option Addr) (c : Nat) (A' : Option Addr) (c' : Nat), Rd w w.heap.size A xs.length c xs → Rd w w.heap.size A' ys.length c' ys → Calls Try.prog 21 #[chartV W H (.slice A xs.length c), chartV V U (.slice A' ys.length c')] w (Out w (.tuple #[.int .i64 an, .bool t]))) := Lib.hid fun w A c A' c' hrd h' => (by have := specAnyWayPlaces_any W H A _ c _ xs V U A' _ c' _ ys w hrd h' (Nat.le_refl _) (Nat.le_refl _); rw [han, ht] at this; exact this)
      clear ht hP hap han
      have ebX0 := bX.cell 0
      have ebX1 := bX.cell 1
      have ebX2 := bX.cell 2
      have zbX := bX.lt
      have ebY0 := bY.cell 0
      have ebY1 := bY.cell 1
      have ebY2 := bY.cell 2
      have zbY := bY.lt
      go_wp2_with fail
      refine (hPi.out _ _ _ _ _ OX.rd OY.rd).mono ?_
      rintro e w10 ⟨A4, c4, rfl, own, hb⟩
      clear ebX0 ebX1 ebX2 zbX ebY0 ebY1 ebY2 zbY
      replace OX := OX.all hb
      replace OY := OY.all hb
      replace bX := bX.all hb
      replace bY := bY.all hb
      replace R := R.all hb HB.size
      have OP := own.mono HB.size
      clear own
      replace HB := HB.trans (hb.mono HB.size)
      clear hb
      have ebX0 := bX.cell 0
      have ebX1 := bX.cell 1
      have ebX2 := bX.cell 2
      have zbX := bX.lt
      have ebY0 := bY.cell 0
      have ebY1 := bY.cell 1
      have ebY2 := bY.cell 2
      have zbY := bY.lt
      go_wp2_with fail
      refine (hPs.out _ _ _ _ _ OX.rd OY.rd).mono ?_
      rintro e w11 ⟨A5, c5, rfl, own, hb⟩
      clear ebX0 ebX1 ebX2 zbX ebY0 ebY1 ebY2 zbY
      replace OX := OX.all hb
      replace OY := OY.all hb
      replace OP := OP.all hb
      replace bX := bX.all hb
      replace bY := bY.all hb
      replace R := R.all hb HB.size
      have OQ := own.mono HB.size
      clear own
      replace HB := HB.trans (hb.mono HB.size)
      clear hb
      have ebX0 := bX.cell 0
      have ebX1 := bX.cell 1
      have ebX2 := bX.cell 2
      have zbX := bX.lt
      have ebY0 := bY.cell 0
      have ebY1 := bY.cell 1
      have ebY2 := bY.cell 2
      have zbY := bY.lt
      go_wp2_with fail
      refine (vPairs_same _ _ _ _ _ _ _ _ P _ OP.rd OQ.rd (Nat.le_refl _) (Nat.le_refl _)).mono ?_
      rintro e w12 ⟨rfl, hb⟩
      clear ebX0 ebX1 ebX2 zbX ebY0 ebY1 ebY2 zbY
      replace OX := OX.all hb
      replace OY := OY.all hb
      replace OP := OP.all hb
      replace OQ := OQ.all hb
      replace bX := bX.all hb
      replace bY := bY.all hb
      replace R := R.all hb HB.size
      replace HB := HB.trans (hb.mono HB.size)
      clear hb
      clear hPi hPs
      clear OQ
      have ebX0 := bX.cell 0
      have ebX1 := bX.cell 1
      have ebX2 := bX.cell 2
      have zbX := bX.lt
      have ebY0 := bY.cell 0
      have ebY1 := bY.cell 1
      have ebY2 := bY.cell 2
      have zbY := bY.lt
      go_wp2_with fail
      refine (hLi.out _ _ _ _ _ OX.rd OY.rd).mono ?_
      rintro e w13 ⟨rfl, hb⟩
      clear ebX0 ebX1 ebX2 zbX ebY0 ebY1 ebY2 zbY
      replace OX := OX.all hb
      replace OY := OY.all hb
      replace OP := OP.all hb
      replace bX := bX.all hb
      replace bY := bY.all hb
      replace R := R.all hb HB.size
      replace HB := HB.trans (hb.mono HB.size)
      clear hb
      have ebX0 := bX.cell 0
      have ebX1 := bX.cell 1
      have ebX2 := bX.cell 2
      have zbX := bX.lt
      have ebY0 := bY.cell 0
      have ebY1 := bY.cell 1
      have ebY2 := bY.cell 2
      have zbY := bY.lt
      go_wp2_with fail
      refine (hLs.out _ _ _ _ _ OX.rd OY.rd).mono ?_
      rintro e w14 ⟨rfl, hb⟩
      clear ebX0 ebX1 ebX2 zbX ebY0 ebY1 ebY2 zbY
      replace OX := OX.all hb
      replace OY := OY.all hb
      replace OP := OP.all hb
      replace bX := bX.all hb
      replace bY := bY.all hb
      replace R := R.all hb HB.size
      replace HB := HB.trans (hb.mono HB.size)
      clear hb
      clear hLi hLs
      obtain ⟨f1, f2, f3⟩ := HPF.out
      have g1 : ¬ (P.length : Int) < ap := by omega
      clear HPF f1
      cases t
      · clear f3
        have ebX0 := bX.cell 0
        have ebX1 := bX.cell 1
        have ebX2 := bX.cell 2
        have zbX := bX.lt
        have ebY0 := bY.cell 0
        have ebY1 := bY.cell 1
        have ebY2 := bY.cell 2
        have zbY := bY.lt
        go_wp2_with fail
        refine (hYi.out _ _ _ _ _ OX.rd OY.rd).mono ?_
        rintro e w15 ⟨rfl, hb⟩
        clear ebX0 ebX1 ebX2 zbX ebY0 ebY1 ebY2 zbY
        replace OX := OX.all hb
        replace OY := OY.all hb
        replace OP := OP.all hb
        replace bX := bX.all hb
        replace bY := bY.all hb
        replace R := R.all hb HB.size
        replace HB := HB.trans (hb.mono HB.size)
        clear hb
        clear g1
        have ebX0 := bX.cell 0
        have ebX1 := bX.cell 1
        have ebX2 := bX.cell 2
        have zbX := bX.lt
        have ebY0 := bY.cell 0
        have ebY1 := bY.cell 1
        have ebY2 := bY.cell 2
        have zbY := bY.lt
        go_wp2_with fail
        refine (hYs.out _ _ _ _ _ OX.rd OY.rd).mono ?_
        rintro e w16 ⟨rfl, hb⟩
        clear ebX0 ebX1 ebX2 zbX ebY0 ebY1 ebY2 zbY
        replace OX := OX.all hb
        replace OY := OY.all hb
        replace OP := OP.all hb
        replace bX := bX.all hb
        replace bY := bY.all hb
        replace R := R.all hb HB.size
        replace HB := HB.trans (hb.mono HB.size)
        clear hb
        clear hYi hYs
        go_wp2
        go_ret
        exact ⟨ret_bool (by simp), HB⟩
      · obtain ⟨f4, f5⟩ := f3 rfl
        clear f3
        by_cases h0 : 0 < ap
        · have g2 : 0 < (P.length : Int) := by omega
          have g3 : ¬ P = [] := fun e => by rw [e] at g2; simp at g2
          have g4 : 0 < P.length := by omega
          have g5 : decide (0 < P.length) = true := decide_eq_true g4
          have g6 : ¬ ((P.length : Int) < ap ∨ (!decide (0 < P.length)) = true) := by rw [g5]; simp; omega
          clear f4
          have ebX0 := bX.cell 0
          have ebX1 := bX.cell 1
          have ebX2 := bX.cell 2
          have zbX := bX.lt
          have ebY0 := bY.cell 0
          have ebY1 := bY.cell 1
          have ebY2 := bY.cell 2
          have zbY := bY.lt
          go_wp2_with fail
          refine (hYi.out _ _ _ _ _ OX.rd OY.rd).mono ?_
          rintro e w15 ⟨rfl, hb⟩
          clear ebX0 ebX1 ebX2 zbX ebY0 ebY1 ebY2 zbY
          replace OX := OX.all hb
          replace OY := OY.all hb
          replace OP := OP.all hb
          replace bX := bX.all hb
          replace bY := bY.all hb
          replace R := R.all hb HB.size
          replace HB := HB.trans (hb.mono HB.size)
          clear hb
          clear g1 h0 g2 g3 g4 g5 g6
          have ebX0 := bX.cell 0
          have ebX1 := bX.cell 1
          have ebX2 := bX.cell 2
          have zbX := bX.lt
          have ebY0 := bY.cell 0
          have ebY1 := bY.cell 1
          have ebY2 := bY.cell 2
          have zbY := bY.lt
          go_wp2_with fail
          refine (hYs.out _ _ _ _ _ OX.rd OY.rd).mono ?_
          rintro e w16 ⟨rfl, hb⟩
          clear ebX0 ebX1 ebX2 zbX ebY0 ebY1 ebY2 zbY
          replace OX := OX.all hb
          replace OY := OY.all hb
          replace OP := OP.all hb
          replace bX := bX.all hb
          replace bY := bY.all hb
          replace R := R.all hb HB.size
          replace HB := HB.trans (hb.mono HB.size)
          clear hb
          clear hYi hYs
          go_wp2
          go_ret
          exact ⟨ret_bool (by first | (simp; done) | (simp at f5 ⊢; omega)), HB⟩
        · obtain rfl : P = [] := List.eq_nil_of_length_eq_zero (by omega)
          clear f4
          have ebX0 := bX.cell 0
          have ebX1 := bX.cell 1
          have ebX2 := bX.cell 2
          have zbX := bX.lt
          have ebY0 := bY.cell 0
          have ebY1 := bY.cell 1
          have ebY2 := bY.cell 2
          have zbY := bY.lt
          go_wp2_with fail
          refine (hYi.out _ _ _ _ _ OX.rd OY.rd).mono ?_
          rintro e w15 ⟨rfl, hb⟩
          clear ebX0 ebX1 ebX2 zbX ebY0 ebY1 ebY2 zbY
          replace OX := OX.all hb
          replace OY := OY.all hb
          replace OP := OP.all hb
          replace bX := bX.all hb
          replace bY := bY.all hb
          replace R := R.all hb HB.size
          replace HB := HB.trans (hb.mono HB.size)
          clear hb
          clear g1 h0
          have ebX0 := bX.cell 0
          have ebX1 := bX.cell 1
          have ebX2 := bX.cell 2
          have zbX := bX.lt
          have ebY0 := bY.cell 0
          have ebY1 := bY.cell 1
          have ebY2 := bY.cell 2
          have zbY := bY.lt
          go_wp2_with fail
          refine (hYs.out _ _ _ _ _ OX.rd OY.rd).mono ?_
          rintro e w16 ⟨rfl, hb⟩
          clear ebX0 ebX1 ebX2 zbX ebY0 ebY1 ebY2 zbY
          replace OX := OX.all hb
          replace OY := OY.all hb
          replace OP := OP.all hb
          replace bX := bX.all hb
          replace bY := bY.all hb
          replace R := R.all hb HB.size
          replace HB := HB.trans (hb.mono HB.size)
          clear hb
          clear hYi hYs
          go_wp2
          go_ret
          exact ⟨ret_bool (by first | (simp; done) | (simp at f5 ⊢; omega)), HB⟩
    · obtain ⟨qa, qd, ⟨a1, a8⟩, ⟨d1, d8⟩, ⟨W1, W8⟩, ⟨H1, H8⟩, ta, td, ⟨qa0, qa8⟩, ⟨qd0, qd8⟩, fall, frep, mA, mD, pa, pd⟩ := HMF.out rfl
      clear HMF
      have hRp : Hid (∀ (w : World) (A : Option Addr) (c : Nat), Rd w w.heap.size A sx.length c sx → Calls Try.prog 13 #[chartV sW sH (.slice A sx.length c), .int .i64 qa, .int .i64 qd] w (OutChart w W H xs true)) := Lib.hid fun w A c hrd => (by have := implRepeatMotif_any sW sH A _ c _ sx qa qd w hrd (Nat.le_refl _); rw [fall, frep, mA, mD] at this; exact this)
      clear fall frep mA mD
      have n1 : ¬ sW = 0 := by omega
      have n2 : ¬ sH = 0 := by omega
      have n3 : (sW == 0) = false := by simpa using n1
      have n4 : (sH == 0) = false := by simpa using n2
      have q1 : IntKind.i64.wrap qa = qa := IntWalk.i64_in _ (by omega)
      have q2 : IntKind.i64.wrap qd = qd := IntWalk.i64_in _ (by omega)
      have q3 : IntKind.i64.wrap (Int.tdiv W sW) = qa := by rw [ta]; exact q1
      have q4 : IntKind.i64.wrap (Int.tdiv H sH) = qd := by rw [td]; exact q2
      have ebX0 := bX.cell 0
      have ebX1 := bX.cell 1
      have ebX2 := bX.cell 2
      have zbX := bX.lt
      have ebA0 := bA.cell 0
      have ebA1 := bA.cell 1
      have ebA2 := bA.cell 2
      have zbA := bA.lt
      go_wp2_with fail
      have HH := Below.refl w8.heap.size w8
      go_cut [16, 17] from 102 to 116 (fun sp sk wx => ∃ (q : Nat) (A4 : Option Addr) (c4 : Nat), sp = .pointer (some ⟨q, 0, none⟩) ∧ sk = .bool true ∧ w8.heap.size ≤ q ∧ Own wx w8.heap.size (.slice A4 xs.length c4) xs ∧ Blk wx q 26 #[.int .i64 W, .int .i64 H, .slice A4 xs.length c4] ∧ Below w8.heap.size w8 wx)
      case first =>
        refine' (fun (key0 : Bool → (_ : Prop)) => ?main) ?key0
        case main =>
          refine wp_region_noPanic ?_
          refine wp_region_held_drew (S := (fun w' => w'.cell? ⟨w1.heap.size, 0, none⟩ = some (.int .i64 W) ∧ w'.cell? ⟨w1.heap.size, 1, none⟩ = some (.int .i64 H) ∧ w'.cell? ⟨w1.heap.size, 2, none⟩ = some (.slice A2 xs.length c2) ∧ w'.cell? ⟨w2.heap.size, 0, none⟩ = some (.int .i64 sW) ∧ w'.cell? ⟨w2.heap.size, 1, none⟩ = some (.int .i64 sH) ∧ w'.cell? ⟨w2.heap.size, 2, none⟩ = some (.slice A3 sx.length c3))) (by kernel_rfl) (by go_keep) (fun hHeld => ?_)
          have HHz := belowD HH
          have bXz : Blk w8.drew _ _ _ := bX.all (low_drewN w8 1)
          have bAz : Blk w8.drew _ _ _ := bA.all (low_drewN w8 1)
          have OAz : Own w8.drew _ _ _ := OA.all (low_drewN w8 1)
          obtain ⟨wd, hwd⟩ : ∃ v, w8.drew = v := ⟨_, rfl⟩
          rw [hwd] at hHeld HHz bXz bAz OAz ⊢
          clear hwd
          refine wpAnyH_take (i := 0) (v := ?_) rfl (by kernel_rfl) (by kernel_rfl) (by kernel_rfl) (fun _ _ _ h => h) (Or.inl ⟨by rfl, ?_⟩) (by assumption) ?_
          rotate_left
          · intro w hSw; (try dsimp only at hSw); go_simp; (try with_reducible rfl)
          (try simp only [Act.put, List.getElem_toArray, List.getElem_cons_zero, List.setIfInBounds_toArray, List.set_cons_zero, List.set_cons_succ])
          refine wpAnyH_take (i := 1) (v := ?_) rfl (by kernel_rfl) (by kernel_rfl) (by kernel_rfl) (fun _ _ _ h => h) (Or.inl ⟨by rfl, ?_⟩) (by assumption) ?_
          rotate_left
          · intro w hSw; (try dsimp only at hSw); go_simp; (try with_reducible rfl)
          (try simp only [Act.put, List.getElem_toArray, List.getElem_cons_zero, List.getElem_cons_succ, List.setIfInBounds_toArray, List.set_cons_zero, List.set_cons_succ])
          refine wpAnyH_take (i := 2) (v := ?_) rfl (by kernel_rfl) (by kernel_rfl) (by kernel_rfl) (fun _ _ _ h => h) (Or.inl ⟨by rfl, ?_⟩) (by assumption) ?_
          rotate_left
          · intro w hSw; (try dsimp only at hSw); go_simp; (try with_reducible rfl)
          (try simp only [Act.put, List.getElem_toArray, List.getElem_cons_zero, List.getElem_cons_succ, List.setIfInBounds_toArray, List.set_cons_zero, List.set_cons_succ])
          refine wpAnyH_take (i := 3) (v := ?_) rfl (by kernel_rfl) (by kernel_rfl) (by kernel_rfl) (fun _ _ _ h => h) (Or.inl ⟨by rfl, ?_⟩) (by assumption) ?_
          rotate_left
          · intro w hSw; (try dsimp only at hSw); go_simp; (try with_reducible rfl)
          (try simp only [Act.put, List.getElem_toArray, List.getElem_cons_zero, List.getElem_cons_succ, List.setIfInBounds_toArray, List.set_cons_zero, List.set_cons_succ])
          refine wpAnyH_take (i := 4) (v := ?_) rfl (by kernel_rfl) (by kernel_rfl) (by kernel_rfl) (fun _ _ _ h => h) (Or.inl ⟨by rfl, ?_⟩) (by assumption) ?_
          rotate_left
          · intro w hSw; (try dsimp only at hSw); go_simp; (try with_reducible rfl)
          (try simp only [Act.put, List.getElem_toArray, List.getElem_cons_zero, List.getElem_cons_succ, List.setIfInBounds_toArray, List.set_cons_zero, List.set_cons_succ])
          refine wpAnyH_take (i := 5) (v := ?_) rfl (by kernel_rfl) (by kernel_rfl) (by kernel_rfl) (fun _ _ _ h => h) (Or.inl ⟨by rfl, ?_⟩) (by assumption) ?_
          rotate_left
          · intro w hSw; (try dsimp only at hSw); go_simp; (try with_reducible rfl)
          (try simp only [Act.put, List.getElem_toArray, List.getElem_cons_zero, List.getElem_cons_succ, List.setIfInBounds_toArray, List.set_cons_zero, List.set_cons_succ])
          refine wpAnyH_take (i := 6) (v := ?_) rfl (by kernel_rfl) (by kernel_rfl) (by kernel_rfl) (fun _ _ _ h => h) (Or.inl ⟨by rfl, ?_⟩) (by assumption) ?_
          rotate_left
          · intro w hSw; (try dsimp only at hSw); go_simp; (try with_reducible rfl)
          (try simp only [Act.put, List.getElem_toArray, List.getElem_cons_zero, List.getElem_cons_succ, List.setIfInBounds_toArray, List.set_cons_zero, List.set_cons_succ])
          refine wpAnyH_take (i := 7) (v := ?_) rfl (by kernel_rfl) (by kernel_rfl) (by kernel_rfl) (fun _ _ _ h => h) (Or.inl ⟨by rfl, ?_⟩) (by assumption) ?_
          rotate_left
          · intro w hSw; (try dsimp only at hSw); go_simp; (try with_reducible rfl)
          (try simp only [Act.put, List.getElem_toArray, List.getElem_cons_zero, List.getElem_cons_succ, List.setIfInBounds_toArray, List.set_cons_zero, List.set_cons_succ])
          refine wpAnyH_take (i := 8) (v := ?_) rfl (by kernel_rfl) (by kernel_rfl) (by kernel_rfl) (fun _ _ _ h => h) (Or.inl ⟨by rfl, ?_⟩) (by assumption) ?_
          rotate_left
          · intro w hSw; (try dsimp only at hSw); go_simp; (try with_reducible rfl)
          (try simp only [Act.put, List.getElem_toArray, List.getElem_cons_zero, List.getElem_cons_succ, List.setIfInBounds_toArray, List.set_cons_zero, List.set_cons_succ])
          refine wpAnyH_take (i := 9) (v := ?_) rfl (by kernel_rfl) (by kernel_rfl) (by kernel_rfl) (fun _ _ _ h => h) (Or.inl ⟨by rfl, ?_⟩) (by assumption) ?_
          rotate_left
          · intro w hSw; (try dsimp only at hSw); go_simp; (try with_reducible rfl)
          (try simp only [Act.put, List.getElem_toArray, List.getElem_cons_zero, List.getElem_cons_succ, List.setIfInBounds_toArray, List.set_cons_zero, List.set_cons_succ])
          refine wpAnyH_take (i := 10) (v := ?_) rfl (by kernel_rfl) (by kernel_rfl) (by kernel_rfl) (fun _ _ _ h => h) (Or.inl ⟨by rfl, ?_⟩) (by assumption) ?_
          rotate_left
          · intro w hSw; (try dsimp only at hSw); go_simp; (try with_reducible rfl)
          (try simp only [Act.put, List.getElem_toArray, List.getElem_cons_zero, List.getElem_cons_succ, List.setIfInBounds_toArray, List.set_cons_zero, List.set_cons_succ])
          clear hHeld
          refine wpAnyH_ready (rs := [11, 15]) (by kernel_rfl) (by simp) ?_
          refine AllReadyH.cons rfl (fun KQ hKQ => ?_) ?_
          · skip
            go_simp
            refine (hRp.out _ _ _ OAz.rd).mono ?_
            rintro e wq1 ⟨A4, c4, rfl, own, hb⟩
            replace bXz := bXz.all hb
            replace bAz := bAz.all hb
            replace OAz := OAz.all hb
            have OW := (own).mono HHz.size
            replace HHz := HHz.trans (hb.mono HHz.size)
            clear hb own
            refine hKQ.out _ _ (by exact ⟨bXz.cell 0, bXz.cell 1, bXz.cell 2, bAz.cell 0, bAz.cell 1, bAz.cell 2⟩) (fun hHeld => ?_)
            clear hKQ KQ
            (try simp only [Act.put, List.getElem_toArray, List.getElem_cons_zero, List.getElem_cons_succ, List.setIfInBounds_toArray, List.set_cons_zero, List.set_cons_succ])
            refine wpAnyH_take (i := 12) (v := ?_) rfl (by kernel_rfl) (by kernel_rfl) (by kernel_rfl) (fun _ _ _ h => h) (Or.inl ⟨by rfl, ?_⟩) (by assumption) ?_
            rotate_left
            · intro w hSw; (try dsimp only at hSw); go_simp; (try with_reducible rfl)
            (try simp only [Act.put, List.getElem_toArray, List.getElem_cons_zero, List.getElem_cons_succ, List.setIfInBounds_toArray, List.set_cons_zero, List.set_cons_succ])
            refine wpAnyH_take (i := 13) (v := ?_) rfl (by kernel_rfl) (by kernel_rfl) (by kernel_rfl) (fun _ _ _ h => h) (Or.inl ⟨by rfl, ?_⟩) (by assumption) ?_
            rotate_left
            · intro w hSw; (try dsimp only at hSw); go_simp; (try with_reducible rfl)
            (try simp only [Act.put, List.getElem_toArray, List.getElem_cons_zero, List.getElem_cons_succ, List.setIfInBounds_toArray, List.set_cons_zero, List.set_cons_succ])
            refine wpAnyH_take (i := 14) (v := ?_) rfl (by kernel_rfl) (by kernel_rfl) (by kernel_rfl) (fun _ _ _ h => h) (Or.inl ⟨by rfl, ?_⟩) (by assumption) ?_
            rotate_left
            · intro w hSw; (try dsimp only at hSw); go_simp; (try with_reducible rfl)
            (try simp only [Act.put, List.getElem_toArray, List.getElem_cons_zero, List.getElem_cons_succ, List.setIfInBounds_toArray, List.set_cons_zero, List.set_cons_succ])
            clear hHeld
            refine wpAnyH_ready (rs := [15]) (by kernel_rfl) (by simp) ?_
            refine AllReadyH.cons rfl (fun KQ hKQ => ?_) AllReadyH.nil
            go_simp
            have hal := (Below.refl wq1.heap.size wq1).alloc (Nat.le_refl _) (.cells #[.int .i64 0, .int .i64 0, .slice none 0 0] 26)
            have hlq15bX := bXz.lt
            have hlq15bA := bAz.lt
            replace bXz := bXz.all hal
            replace bAz := bAz.all hal
            replace OAz := OAz.all hal
            replace OW := OW.all hal
            have hqq15 : w8.heap.size ≤ wq1.heap.size := HHz.size
            have Z15 : Blk _ (wq1.heap.size) _ _ := Blk.new wq1 #[.int .i64 0, .int .i64 0, .slice none 0 0] 26
            replace HHz := HHz.alloc HHz.size (.cells #[.int .i64 0, .int .i64 0, .slice none 0 0] 26)
            obtain ⟨q15, hq⟩ : ∃ q, wq1.heap.size = q := ⟨_, rfl⟩
            rw [hq] at Z15 hlq15bX hlq15bA hqq15 ⊢
            obtain ⟨wq2, hw⟩ : ∃ v, wq1.alloc (.cells #[.int .i64 0, .int .i64 0, .slice none 0 0] 26) = v := ⟨_, rfl⟩
            rw [hw] at HHz bXz bAz OAz OW Z15 ⊢
            clear hal hw hq
            refine hKQ.out _ _ (by exact ⟨bXz.cell 0, bXz.cell 1, bXz.cell 2, bAz.cell 0, bAz.cell 1, bAz.cell 2⟩) (fun hHeld => ?_)
            clear hKQ KQ
            (try simp only [Act.put, List.getElem_toArray, List.getElem_cons_zero, List.getElem_cons_succ, List.setIfInBounds_toArray, List.set_cons_zero, List.set_cons_succ])
            revert hHeld; revert hqq15; revert hlq15bX; revert hlq15bA; revert Z15; revert OW; revert OAz; revert bAz; revert bXz; revert HHz; revert q15; revert c4; revert A4; revert wq2
            exact key0 true
          refine AllReadyH.cons rfl (fun KQ hKQ => ?_) AllReadyH.nil
          go_simp
          have hal := (Below.refl wd.heap.size wd).alloc (Nat.le_refl _) (.cells #[.int .i64 0, .int .i64 0, .slice none 0 0] 26)
          have hlq15bX := bXz.lt
          have hlq15bA := bAz.lt
          replace bXz := bXz.all hal
          replace bAz := bAz.all hal
          replace OAz := OAz.all hal
          have hqq15 : w8.heap.size ≤ wd.heap.size := HHz.size
          have Z15 : Blk _ (wd.heap.size) _ _ := Blk.new wd #[.int .i64 0, .int .i64 0, .slice none 0 0] 26
          replace HHz := HHz.alloc HHz.size (.cells #[.int .i64 0, .int .i64 0, .slice none 0 0] 26)
          obtain ⟨q15, hq⟩ : ∃ q, wd.heap.size = q := ⟨_, rfl⟩
          rw [hq] at Z15 hlq15bX hlq15bA hqq15 ⊢
          obtain ⟨wq3, hw⟩ : ∃ v, wd.alloc (.cells #[.int .i64 0, .int .i64 0, .slice none 0 0] 26) = v := ⟨_, rfl⟩
          rw [hw] at HHz bXz bAz OAz Z15 ⊢
          clear hal hw hq
          refine hKQ.out _ _ (by exact ⟨bXz.cell 0, bXz.cell 1, bXz.cell 2, bAz.cell 0, bAz.cell 1, bAz.cell 2⟩) (fun hHeld => ?_)
          clear hKQ KQ
          (try simp only [Act.put, List.getElem_toArray, List.getElem_cons_zero, List.getElem_cons_succ, List.setIfInBounds_toArray, List.set_cons_zero, List.set_cons_succ])
          clear hHeld
          refine wpAnyH_ready (rs := [11]) (by kernel_rfl) (by simp) ?_
          refine AllReadyH.cons rfl (fun KQ hKQ => ?_) AllReadyH.nil
          go_simp
          refine (hRp.out _ _ _ OAz.rd).mono ?_
          rintro e wq4 ⟨A4, c4, rfl, own, hb⟩
          replace bXz := bXz.all hb
          replace bAz := bAz.all hb
          replace OAz := OAz.all hb
          replace Z15 := Z15.all hb
          have OW := (own).mono HHz.size
          replace HHz := HHz.trans (hb.mono HHz.size)
          clear hb own
          refine hKQ.out _ _ (by exact ⟨bXz.cell 0, bXz.cell 1, bXz.cell 2, bAz.cell 0, bAz.cell 1, bAz.cell 2⟩) (fun hHeld => ?_)
          clear hKQ KQ
          (try simp only [Act.put, List.getElem_toArray, List.getElem_cons_zero, List.getElem_cons_succ, List.setIfInBounds_toArray, List.set_cons_zero, List.set_cons_succ])
          refine wpAnyH_take (i := 12) (v := ?_) rfl (by kernel_rfl) (by kernel_rfl) (by kernel_rfl) (fun _ _ _ h => h) (Or.inl ⟨by rfl, ?_⟩) (by assumption) ?_
          rotate_left
          · intro w hSw; (try dsimp only at hSw); go_simp; (try with_reducible rfl)
          (try simp only [Act.put, List.getElem_toArray, List.getElem_cons_zero, List.getElem_cons_succ, List.setIfInBounds_toArray, List.set_cons_zero, List.set_cons_succ])
          refine wpAnyH_take (i := 13) (v := ?_) rfl (by kernel_rfl) (by kernel_rfl) (by kernel_rfl) (fun _ _ _ h => h) (Or.inl ⟨by rfl, ?_⟩) (by assumption) ?_
          rotate_left
          · intro w hSw; (try dsimp only at hSw); go_simp; (try with_reducible rfl)
          (try simp only [Act.put, List.getElem_toArray, List.getElem_cons_zero, List.getElem_cons_succ, List.setIfInBounds_toArray, List.set_cons_zero, List.set_cons_succ])
          refine wpAnyH_take (i := 14) (v := ?_) rfl (by kernel_rfl) (by kernel_rfl) (by kernel_rfl) (fun _ _ _ h => h) (Or.inl ⟨by rfl, ?_⟩) (by assumption) ?_
          rotate_left
          · intro w hSw; (try dsimp only at hSw); go_simp; (try with_reducible rfl)
          (try simp only [Act.put, List.getElem_toArray, List.getElem_cons_zero, List.getElem_cons_succ, List.setIfInBounds_toArray, List.set_cons_zero, List.set_cons_succ])
          revert hHeld; revert hqq15; revert hlq15bX; revert hlq15bA; revert Z15; revert OW; revert OAz; revert bAz; revert bXz; revert HHz; revert q15; revert c4; revert A4; revert wq4
          exact key0 true
        case key0 =>
          intro _ wq2 A4 c4 q15 HHz bXz bAz OAz OW Z15 hlq15bA hlq15bX hqq15 hHeld
          clear hHeld
          refine wpAnyH_ready (rs := [16]) (by kernel_rfl) (by simp) ?_
          refine AllReadyH.cons rfl (fun KQ hKQ => ?_) AllReadyH.nil
          have zz0 := Z15.cell 0
          have zz1 := Z15.cell 1
          have zz2 := Z15.cell 2
          have zf0 := Z15.frozen 0
          have zf1 := Z15.frozen 1
          have zf2 := Z15.frozen 2
          go_simp
          replace HHz := below_far3 HHz hqq15 (a := .int .i64 W) (b := .int .i64 H) (c := .slice A4 xs.length c4)
          replace bXz := bXz.far3b (p := q15) (a := .int .i64 W) (b := .int .i64 H) (c := .slice A4 xs.length c4) (by omega)
          replace bAz := bAz.far3b (p := q15) (a := .int .i64 W) (b := .int .i64 H) (c := .slice A4 xs.length c4) (by omega)
          replace OAz := OAz.far3b (row_ne' OAz.1 Z15 (by decide)) (a := .int .i64 W) (b := .int .i64 H) (c := .slice A4 xs.length c4)
          replace OW := OW.far3b (row_ne' OW.1 Z15 (by decide)) (a := .int .i64 W) (b := .int .i64 H) (c := .slice A4 xs.length c4)
          replace Z15 : Blk _ _ _ #[.int .i64 W, .int .i64 H, .slice A4 xs.length c4] := Z15.put3b
          clear zz0 zf0 zz1 zf1 zz2 zf2
          obtain ⟨wq5, hw⟩ : ∃ v, ((wq2.setCell ⟨q15, 0, none⟩ (.int .i64 W)).setCell ⟨q15, 1, none⟩ (.int .i64 H)).setCell ⟨q15, 2, none⟩ (.slice A4 xs.length c4) = v := ⟨_, rfl⟩
          rw [hw] at HHz bXz bAz OAz OW Z15 ⊢
          clear hw
          refine hKQ.out _ _ (by exact ⟨bXz.cell 0, bXz.cell 1, bXz.cell 2, bAz.cell 0, bAz.cell 1, bAz.cell 2⟩) (fun hHeld => ?_)
          clear hKQ KQ
          (try simp only [Act.put, List.getElem_toArray, List.getElem_cons_zero, List.getElem_cons_succ, List.setIfInBounds_toArray, List.set_cons_zero, List.set_cons_succ])
          refine wpAnyH_take (i := 17) (v := ?_) rfl (by kernel_rfl) (by kernel_rfl) (by kernel_rfl) (fun _ _ _ h => h) (Or.inl ⟨by rfl, ?_⟩) (by assumption) ?_
          rotate_left
          · intro w hSw; (try dsimp only at hSw); go_simp; (try with_reducible rfl)
          (try simp only [Act.put, List.getElem_toArray, List.getElem_cons_zero, List.getElem_cons_succ, List.setIfInBounds_toArray, List.set_cons_zero, List.set_cons_succ])
          refine wpAnyH_done (by kernel_rfl) ?_ _
          refine NoPanic.normal ?_
          go_wp2_with fail
          go_meet
          exact ⟨q15, A4, c4, rfl, rfl, hqq15, OW, Z15, HHz⟩
      case rest =>
        clear HH ebX0 ebX1 ebX2 zbX ebA0 ebA1 ebA2 zbA
        obtain ⟨qW, A4, c4, rfl, rfl, hqW, OW, bW, hb⟩ := hcut
        obtain ⟨w9, hw_⟩ : ∃ v, v = wc := ⟨_, rfl⟩
        subst hw_
        replace OX := OX.all hb
        replace OA := OA.all hb
        replace bX := bX.all hb
        replace bA := bA.all hb
        replace R := R.all hb HB.size
        replace OW := OW.mono HB.size
        replace HB := HB.trans (hb.mono HB.size)
        clear hb
        clear hRp n1 n2 n3 n4 q1 q2 q3 q4 ta td
        have ebX0 := bX.cell 0
        have ebX1 := bX.cell 1
        have ebX2 := bX.cell 2
        have zbX := bX.lt
        have ebA0 := bA.cell 0
        have ebA1 := bA.cell 1
        have ebA2 := bA.cell 2
        have zbA := bA.lt
        have ebW0 := bW.cell 0
        have ebW1 := bW.cell 1
        have ebW2 := bW.cell 2
        have zbW := bW.lt
        go_wp2_with fail
        refine (vChart_same W H _ _ _ _ _ _ _ _ xs _ OW.rd OX.rd (Nat.le_refl _) (Nat.le_refl _)).mono ?_
        rintro e w10 ⟨rfl, hb⟩
        clear ebX0 ebX1 ebX2 zbX ebA0 ebA1 ebA2 zbA ebW0 ebW1 ebW2 zbW
        replace OX := OX.all hb
        replace OA := OA.all hb
        replace OW := OW.all hb
        replace bX := bX.all hb
        replace bA := bA.all hb
        replace bW := bW.all hb
        replace R := R.all hb HB.size
        replace HB := HB.trans (hb.mono HB.size)
        clear hb
        have g1 : ¬ sW < pA := by omega
        have g2 : ¬ sH < pD := by omega
        have ebX0 := bX.cell 0
        have ebX1 := bX.cell 1
        have ebX2 := bX.cell 2
        have zbX := bX.lt
        have ebA0 := bA.cell 0
        have ebA1 := bA.cell 1
        have ebA2 := bA.cell 2
        have zbA := bA.lt
        have ebW0 := bW.cell 0
        have ebW1 := bW.cell 1
        have ebW2 := bW.cell 2
        have zbW := bW.lt
        have hzp := HB.size
        go_wp2_with fail
        refine (drawPlacesOf_any A n c w.heap.size _ R HB.size hn).mono ?_
        rintro e w11 ⟨W, H, A2, c2, xs, V, U, A3, c3, ys, rfl, hsm, hsm2, own, own2, hb⟩
        clear g1 g2 ebX0 ebX1 ebX2 zbX ebA0 ebA1 ebA2 zbA ebW0 ebW1 ebW2 zbW
        clear OX OA OW bX bA bW
        replace R := R.all hb HB.size
        have OX := own.mono hzp
        have OY := own2.mono hzp
        clear own own2 hsm hsm2
        replace HB := HB.trans (hb.mono HB.size)
        clear hb hzp
        replace OX := OX.alloc (.cells #[.int .i64 W, .int .i64 H, .slice A2 xs.length c2] 26)
        replace OY := OY.alloc (.cells #[.int .i64 W, .int .i64 H, .slice A2 xs.length c2] 26)
        replace R := R.alloc HB.size (.cells #[.int .i64 W, .int .i64 H, .slice A2 xs.length c2] 26)
        have bX := Blk.new w11 #[.int .i64 W, .int .i64 H, .slice A2 xs.length c2] 26
        replace HB := HB.alloc HB.size (.cells #[.int .i64 W, .int .i64 H, .slice A2 xs.length c2] 26)
        replace OX := OX.alloc (.cells #[.int .i64 V, .int .i64 U, .slice A3 ys.length c3] 26)
        replace OY := OY.alloc (.cells #[.int .i64 V, .int .i64 U, .slice A3 ys.length c3] 26)
        replace bX := bX.alloc (.cells #[.int .i64 V, .int .i64 U, .slice A3 ys.length c3] 26)
        replace R := R.alloc HB.size (.cells #[.int .i64 V, .int .i64 U, .slice A3 ys.length c3] 26)
        have bY := Blk.new (w11.alloc (.cells #[.int .i64 W, .int .i64 H, .slice A2 xs.length c2] 26)) #[.int .i64 V, .int .i64 U, .slice A3 ys.length c3] 26
        replace HB := HB.alloc HB.size (.cells #[.int .i64 V, .int .i64 U, .slice A3 ys.length c3] 26)
        replace bY := bY.at_ (q := w11.heap.size + 1) (by simp)
        obtain ⟨t, ht⟩ : ∃ z, twoOk W H xs V U ys = z := ⟨_, rfl⟩
        obtain ⟨P, hP⟩ : ∃ z, placesX W H xs V U ys = z := ⟨_, rfl⟩
        obtain ⟨ap, hap⟩ : ∃ z, apartN W H xs V U ys = z := ⟨_, rfl⟩
        obtain ⟨an, han⟩ : ∃ z, anyN W H xs V U ys = z := ⟨_, rfl⟩
        have HPF := Lib.hid (place_facts W H xs V U ys)
        rw [ht, hP, hap, han] at HPF
        have hPi : Hid (∀ (w : World) (A : Option Addr) (c : Nat) (A' : Option Addr) (c' : Nat), Rd w w.heap.size A xs.length c xs → Rd w w.heap.size A' ys.length c' ys → Calls Try.prog 15 #[chartV W H (.slice A xs.length c), chartV V U (.slice A' ys.length c')] w (OutF pairF w P t)) := Lib.hid fun w A c A' c' hrd h' => (by have := implPlacesOf_any W H A _ c _ xs V U A' _ c' _ ys w hrd h' (Nat.le_refl _) (Nat.le_refl _); rw [hP, ht] at this; exact this)
        have hLi : Hid (∀ (w : World) (A : Option Addr) (c : Nat) (A' : Option Addr) (c' : Nat), Rd w w.heap.size A xs.length c xs → Rd w w.heap.size A' ys.length c' ys → Calls Try.prog 18 #[chartV W H (.slice A xs.length c), chartV V U (.slice A' ys.length c')] w (Out w (.tuple #[.int .i64 ap, .bool t]))) := Lib.hid fun w A c A' c' hrd h' => (by have := implApartPlaces_any W H A _ c _ xs V U A' _ c' _ ys w hrd h' (Nat.le_refl _) (Nat.le_refl _); rw [hap, ht] at this; exact this)
        have hYi : Hid (∀ (w : World) (A : Option Addr) (c : Nat) (A' : Option Addr) (c' : Nat), Rd w w.heap.size A xs.length c xs → Rd w w.heap.size A' ys.length c' ys → Calls Try.prog 20 #[chartV W H (.slice A xs.length c), chartV V U (.slice A' ys.length c')] w (Out w (.tuple #[.int .i64 an, .bool t]))) := Lib.hid fun w A c A' c' hrd h' => (by have := implAnyWayPlaces_any W H A _ c _ xs V U A' _ c' _ ys w hrd h' (Nat.le_refl _) (Nat.le_refl _); rw [han, ht] at this; exact this)
        have hPs : Hid (∀ (w : World) (A : Option Addr) (c : Nat) (A' : Option Addr) (c' : Nat), Rd w w.heap.size A xs.length c xs → Rd w w.heap.size A' ys.length c' ys → Calls Try.prog 16 #[chartV W H (.slice A xs.length c), chartV V U (.slice A' ys.length c')] w (OutF pairF w P t)) := Lib.hid fun w A c A' c' hrd h' => (by have := specPlacesOf_any W H A _ c _ xs V U A' _ c' _ ys w hrd h' (Nat.le_refl _) (Nat.le_refl _); rw [hP, ht] at this; exact this)
        have hLs : Hid (∀ (w : World) (A : Option Addr) (c : Nat) (A' : Option Addr) (c' : Nat), Rd w w.heap.size A xs.length c xs → Rd w w.heap.size A' ys.length c' ys → Calls Try.prog 19 #[chartV W H (.slice A xs.length c), chartV V U (.slice A' ys.length c')] w (Out w (.tuple #[.int .i64 ap, .bool t]))) := Lib.hid fun w A c A' c' hrd h' => (by have := specApartPlaces_any W H A _ c _ xs V U A' _ c' _ ys w hrd h' (Nat.le_refl _) (Nat.le_refl _); rw [hap, ht] at this; exact this)
        have hYs : Hid (∀ (w : World) (A : Option Addr) (c : Nat) (A' : Option Addr) (c' : Nat), Rd w w.heap.size A xs.length c xs → Rd w w.heap.size A' ys.length c' ys → Calls Try.prog 21 #[chartV W H (.slice A xs.length c), chartV V U (.slice A' ys.length c')] w (Out w (.tuple #[.int .i64 an, .bool t]))) := Lib.hid fun w A c A' c' hrd h' => (by have := specAnyWayPlaces_any W H A _ c _ xs V U A' _ c' _ ys w hrd h' (Nat.le_refl _) (Nat.le_refl _); rw [han, ht] at this; exact this)
        clear ht hP hap han
        have ebX0 := bX.cell 0
        have ebX1 := bX.cell 1
        have ebX2 := bX.cell 2
        have zbX := bX.lt
        have ebY0 := bY.cell 0
        have ebY1 := bY.cell 1
        have ebY2 := bY.cell 2
        have zbY := bY.lt
        go_wp2_with fail
        refine (hPi.out _ _ _ _ _ OX.rd OY.rd).mono ?_
        rintro e w12 ⟨A4, c4, rfl, own, hb⟩
        clear ebX0 ebX1 ebX2 zbX ebY0 ebY1 ebY2 zbY
        replace OX := OX.all hb
        replace OY := OY.all hb
        replace bX := bX.all hb
        replace bY := bY.all hb
        replace R := R.all hb HB.size
        have OP := own.mono HB.size
        clear own
        replace HB := HB.trans (hb.mono HB.size)
        clear hb
        have ebX0 := bX.cell 0
        have ebX1 := bX.cell 1
        have ebX2 := bX.cell 2
        have zbX := bX.lt
        have ebY0 := bY.cell 0
        have ebY1 := bY.cell 1
        have ebY2 := bY.cell 2
        have zbY := bY.lt
        go_wp2_with fail
        refine (hPs.out _ _ _ _ _ OX.rd OY.rd).mono ?_
        rintro e w13 ⟨A5, c5, rfl, own, hb⟩
        clear ebX0 ebX1 ebX2 zbX ebY0 ebY1 ebY2 zbY
        replace OX := OX.all hb
        replace OY := OY.all hb
        replace OP := OP.all hb
        replace bX := bX.all hb
        replace bY := bY.all hb
        replace R := R.all hb HB.size
        have OQ := own.mono HB.size
        clear own
        replace HB := HB.trans (hb.mono HB.size)
        clear hb
        have ebX0 := bX.cell 0
        have ebX1 := bX.cell 1
        have ebX2 := bX.cell 2
        have zbX := bX.lt
        have ebY0 := bY.cell 0
        have ebY1 := bY.cell 1
        have ebY2 := bY.cell 2
        have zbY := bY.lt
        go_wp2_with fail
        refine (vPairs_same _ _ _ _ _ _ _ _ P _ OP.rd OQ.rd (Nat.le_refl _) (Nat.le_refl _)).mono ?_
        rintro e w14 ⟨rfl, hb⟩
        clear ebX0 ebX1 ebX2 zbX ebY0 ebY1 ebY2 zbY
        replace OX := OX.all hb
        replace OY := OY.all hb
        replace OP := OP.all hb
        replace OQ := OQ.all hb
        replace bX := bX.all hb
        replace bY := bY.all hb
        replace R := R.all hb HB.size
        replace HB := HB.trans (hb.mono HB.size)
        clear hb
        clear hPi hPs
        clear OQ
        have ebX0 := bX.cell 0
        have ebX1 := bX.cell 1
        have ebX2 := bX.cell 2
        have zbX := bX.lt
        have ebY0 := bY.cell 0
        have ebY1 := bY.cell 1
        have ebY2 := bY.cell 2
        have zbY := bY.lt
        go_wp2_with fail
        refine (hLi.out _ _ _ _ _ OX.rd OY.rd).mono ?_
        rintro e w15 ⟨rfl, hb⟩
        clear ebX0 ebX1 ebX2 zbX ebY0 ebY1 ebY2 zbY
        replace OX := OX.all hb
        replace OY := OY.all hb
        replace OP := OP.all hb
        replace bX := bX.all hb
        replace bY := bY.all hb
        replace R := R.all hb HB.size
        replace HB := HB.trans (hb.mono HB.size)
        clear hb
        have ebX0 := bX.cell 0
        have ebX1 := bX.cell 1
        have ebX2 := bX.cell 2
        have zbX := bX.lt
        have ebY0 := bY.cell 0
        have ebY1 := bY.cell 1
        have ebY2 := bY.cell 2
        have zbY := bY.lt
        go_wp2_with fail
        refine (hLs.out _ _ _ _ _ OX.rd OY.rd).mono ?_
        rintro e w16 ⟨rfl, hb⟩
        clear ebX0 ebX1 ebX2 zbX ebY0 ebY1 ebY2 zbY
        replace OX := OX.all hb
        replace OY := OY.all hb
        replace OP := OP.all hb
        replace bX := bX.all hb
        replace bY := bY.all hb
        replace R := R.all hb HB.size
        replace HB := HB.trans (hb.mono HB.size)
        clear hb
        clear hLi hLs
        obtain ⟨f1, f2, f3⟩ := HPF.out
        have g1 : ¬ (P.length : Int) < ap := by omega
        clear HPF f1
        cases t
        · clear f3
          have ebX0 := bX.cell 0
          have ebX1 := bX.cell 1
          have ebX2 := bX.cell 2
          have zbX := bX.lt
          have ebY0 := bY.cell 0
          have ebY1 := bY.cell 1
          have ebY2 := bY.cell 2
          have zbY := bY.lt
          go_wp2_with fail
          refine (hYi.out _ _ _ _ _ OX.rd OY.rd).mono ?_
          rintro e w17 ⟨rfl, hb⟩
          clear ebX0 ebX1 ebX2 zbX ebY0 ebY1 ebY2 zbY
          replace OX := OX.all hb
          replace OY := OY.all hb
          replace OP := OP.all hb
          replace bX := bX.all hb
          replace bY := bY.all hb
          replace R := R.all hb HB.size
          replace HB := HB.trans (hb.mono HB.size)
          clear hb
          clear g1
          have ebX0 := bX.cell 0
          have ebX1 := bX.cell 1
          have ebX2 := bX.cell 2
          have zbX := bX.lt
          have ebY0 := bY.cell 0
          have ebY1 := bY.cell 1
          have ebY2 := bY.cell 2
          have zbY := bY.lt
          go_wp2_with fail
          refine (hYs.out _ _ _ _ _ OX.rd OY.rd).mono ?_
          rintro e w18 ⟨rfl, hb⟩
          clear ebX0 ebX1 ebX2 zbX ebY0 ebY1 ebY2 zbY
          replace OX := OX.all hb
          replace OY := OY.all hb
          replace OP := OP.all hb
          replace bX := bX.all hb
          replace bY := bY.all hb
          replace R := R.all hb HB.size
          replace HB := HB.trans (hb.mono HB.size)
          clear hb
          clear hYi hYs
          go_wp2
          go_ret
          exact ⟨ret_bool (by simp), HB⟩
        · obtain ⟨f4, f5⟩ := f3 rfl
          clear f3
          by_cases h0 : 0 < ap
          · have g2 : 0 < (P.length : Int) := by omega
            have g3 : ¬ P = [] := fun e => by rw [e] at g2; simp at g2
            have g4 : 0 < P.length := by omega
            have g5 : decide (0 < P.length) = true := decide_eq_true g4
            have g6 : ¬ ((P.length : Int) < ap ∨ (!decide (0 < P.length)) = true) := by rw [g5]; simp; omega
            clear f4
            have ebX0 := bX.cell 0
            have ebX1 := bX.cell 1
            have ebX2 := bX.cell 2
            have zbX := bX.lt
            have ebY0 := bY.cell 0
            have ebY1 := bY.cell 1
            have ebY2 := bY.cell 2
            have zbY := bY.lt
            go_wp2_with fail
            refine (hYi.out _ _ _ _ _ OX.rd OY.rd).mono ?_
            rintro e w17 ⟨rfl, hb⟩
            clear ebX0 ebX1 ebX2 zbX ebY0 ebY1 ebY2 zbY
            replace OX := OX.all hb
            replace OY := OY.all hb
            replace OP := OP.all hb
            replace bX := bX.all hb
            replace bY := bY.all hb
            replace R := R.all hb HB.size
            replace HB := HB.trans (hb.mono HB.size)
            clear hb
            clear g1 h0 g2 g3 g4 g5 g6
            have ebX0 := bX.cell 0
            have ebX1 := bX.cell 1
            have ebX2 := bX.cell 2
            have zbX := bX.lt
            have ebY0 := bY.cell 0
            have ebY1 := bY.cell 1
            have ebY2 := bY.cell 2
            have zbY := bY.lt
            go_wp2_with fail
            refine (hYs.out _ _ _ _ _ OX.rd OY.rd).mono ?_
            rintro e w18 ⟨rfl, hb⟩
            clear ebX0 ebX1 ebX2 zbX ebY0 ebY1 ebY2 zbY
            replace OX := OX.all hb
            replace OY := OY.all hb
            replace OP := OP.all hb
            replace bX := bX.all hb
            replace bY := bY.all hb
            replace R := R.all hb HB.size
            replace HB := HB.trans (hb.mono HB.size)
            clear hb
            clear hYi hYs
            go_wp2
            go_ret
            exact ⟨ret_bool (by first | (simp; done) | (simp at f5 ⊢; omega)), HB⟩
          · obtain rfl : P = [] := List.eq_nil_of_length_eq_zero (by omega)
            clear f4
            have ebX0 := bX.cell 0
            have ebX1 := bX.cell 1
            have ebX2 := bX.cell 2
            have zbX := bX.lt
            have ebY0 := bY.cell 0
            have ebY1 := bY.cell 1
            have ebY2 := bY.cell 2
            have zbY := bY.lt
            go_wp2_with fail
            refine (hYi.out _ _ _ _ _ OX.rd OY.rd).mono ?_
            rintro e w17 ⟨rfl, hb⟩
            clear ebX0 ebX1 ebX2 zbX ebY0 ebY1 ebY2 zbY
            replace OX := OX.all hb
            replace OY := OY.all hb
            replace OP := OP.all hb
            replace bX := bX.all hb
            replace bY := bY.all hb
            replace R := R.all hb HB.size
            replace HB := HB.trans (hb.mono HB.size)
            clear hb
            clear g1 h0
            have ebX0 := bX.cell 0
            have ebX1 := bX.cell 1
            have ebX2 := bX.cell 2
            have zbX := bX.lt
            have ebY0 := bY.cell 0
            have ebY1 := bY.cell 1
            have ebY2 := bY.cell 2
            have zbY := bY.lt
            go_wp2_with fail
            refine (hYs.out _ _ _ _ _ OX.rd OY.rd).mono ?_
            rintro e w18 ⟨rfl, hb⟩
            clear ebX0 ebX1 ebX2 zbX ebY0 ebY1 ebY2 zbY
            replace OX := OX.all hb
            replace OY := OY.all hb
            replace OP := OP.all hb
            replace bX := bX.all hb
            replace bY := bY.all hb
            replace R := R.all hb HB.size
            replace HB := HB.trans (hb.mono HB.size)
            clear hb
            clear hYi hYs
            go_wp2
            go_ret
            exact ⟨ret_bool (by first | (simp; done) | (simp at f5 ⊢; omega)), HB⟩
  · go_enter Try.func3, Try.ntmps3
    go_wp2_with fail
    refine (vBig_eq A n c _ (by omega) true (by simp; omega)).mono ?_
    rintro e w' ⟨rfl, rfl⟩
    go_wp2
    go_ret
    exact ⟨rfl, HB⟩
end Go.Proofs.Ytpmhnklmhfadlaa
