/- The walk of the law FnStocks. No condition. -/
import Derived.Test.YtndoianocmekmaaDraws10c
import Derived.Test.YtndoianocmekmaaStockFn
import Derived.Test.YtndoianocmekmaaHungry
import Derived.Test.YtndoianocmekmaaShare
import Derived.Test.YtndoianocmekmaaCarpets
import Derived.Test.YtndoianocmekmaaCarpS
import Derived.Test.YtndoianocmekmaaShort
namespace Go.Proofs.Ytndoianocmekmaa
open Go.RowKit

theorem vInts_low (A A' : Option Addr) (n c n' c' B B' : Nat) (xs : List Int) (w : World) (h : Rd w B A n c xs) (h' : Rd w B' A' n' c' xs) : Calls Try.prog 15 #[.slice A n c, .slice A' n' c'] w fun e w' => e = .returned (.bool true) ∧ Below w.heap.size w w' :=
  (vInts_same A A' n c n' c' B B' xs w h h').mono fun _ _ ⟨he, q, hq⟩ => ⟨he, hq ▸ low_drewN w q⟩
theorem shares_calls {U V : Int} {ys : List Int} (h : goodB U V ys = true) : ∃ a b : Int, (0 ≤ a ∧ a ≤ 64) ∧ (0 ≤ b ∧ b ≤ 64) ∧ (∀ (w : World) (A : Option Addr) (c : Nat), Rd w w.heap.size A ys.length c ys → Calls Try.prog 28 #[chartV U V (.slice A ys.length c), .int .i64 (hungryX U V ys)] w (Out w (.tuple #[.int .i64 a, .int .i64 b, .bool true]))) ∧ ∀ k : Nat, k < 6 → ∃ p q : Int, (0 ≤ p ∧ p ≤ 64) ∧ (0 ≤ q ∧ q ≤ 64) ∧ ¬ a * q < p * b ∧ ∀ (w : World) (A : Option Addr) (c : Nat), Rd w w.heap.size A ys.length c ys → Calls Try.prog 28 #[chartV U V (.slice A ys.length c), .int .i64 k] w (Out w (.tuple #[.int .i64 p, .int .i64 q, .bool true])) := by
  obtain ⟨b, hb, e, hall⟩ := shares_le h
  rw [e]
  have call : ∀ k : Nat, k < 6 → ∀ (w : World) (A : Option Addr) (c : Nat), Rd w w.heap.size A ys.length c ys → Calls Try.prog 28 #[chartV U V (.slice A ys.length c), .int .i64 k] w (Out w (.tuple #[.int .i64 (shareP U V ys k), .int .i64 (shareQ U V ys k), .bool true])) := fun k hk w A c hR => by
    have := implColorShare_any U V A _ c _ ys k w hR (Nat.le_refl _)
    rw [(hall k hk).1] at this
    exact this
  exact ⟨_, _, (hall b hb).2.1, (hall b hb).2.2.1, call b hb, fun k hk => ⟨_, _, (hall k hk).2.1, (hall k hk).2.2.1, (hall k hk).2.2.2, call k hk⟩⟩
set_option maxRecDepth 100000 in
set_option maxHeartbeats 16000000 in
theorem fnStocks_walk (w : World) (A : Option Addr) (n c : Nat) (R : RdB w w.heap.size A n c) : Calls Try.prog 4 #[.slice A n c] w fun e w' => e = .returned (.bool true) ∧ Below w.heap.size w w' := by
  have hcap := R.cap
  have hmax := R.max
  unfold maxLen at hmax
  have HB := Below.refl w.heap.size w
  by_cases hn : n ≤ 65536
  rotate_left
  · go_enter Try.func4, Try.ntmps4
    go_wp2_with fail
    refine (vBig_eq A n c _ (by omega) true (by simp; omega)).mono ?_
    rintro e w' ⟨rfl, rfl⟩
    go_wp2
    go_ret
    exact ⟨rfl, HB⟩
  go_enter Try.func4, Try.ntmps4
  go_wp2_with fail
  refine (vBig_eq A n c _ (by omega) false (by simp; omega)).mono ?_
  rintro e w' ⟨rfl, rfl⟩
  go_wp2_with fail
  refine (drawCarpetsFrom_any A n c w.heap.size _ R HB.size hn).mono ?_
  rintro e w1 ⟨W, H, A2, c2, xs, s, g, off, n2, c3, ss, rfl, hsm, hs, own, hgl, RS, hb⟩
  replace R := R.all hb HB.size
  have OX := own.mono HB.size
  clear own hgl
  replace HB := HB.trans (hb.mono HB.size)
  clear hb
  obtain ⟨KS, hKS⟩ : ∃ q, w1.heap.size = q := ⟨_, rfl⟩
  rw [hKS] at RS
  have hkz : KS ≤ w1.heap.size := Nat.le_of_eq hKS.symm
  clear hKS
  replace RS := RS.alloc hkz (.cells #[.int .i64 W, .int .i64 H, .slice A2 xs.length c2] 33)
  replace hkz : KS ≤ (w1.alloc (.cells #[.int .i64 W, .int .i64 H, .slice A2 xs.length c2] 33)).heap.size := Nat.le_trans hkz (by simp)
  replace OX := OX.alloc (.cells #[.int .i64 W, .int .i64 H, .slice A2 xs.length c2] 33)
  replace R := R.alloc HB.size (.cells #[.int .i64 W, .int .i64 H, .slice A2 xs.length c2] 33)
  have bC := Blk.new w1 #[.int .i64 W, .int .i64 H, .slice A2 xs.length c2] 33
  replace HB := HB.alloc HB.size (.cells #[.int .i64 W, .int .i64 H, .slice A2 xs.length c2] 33)
  replace RS := RS.alloc hkz (.cells #[.int .i64 s.f0, .int .i64 s.f1, .int .i64 s.f2, .int .i64 s.f3] 25)
  replace hkz : KS ≤ ((w1.alloc (.cells #[.int .i64 W, .int .i64 H, .slice A2 xs.length c2] 33)).alloc (.cells #[.int .i64 s.f0, .int .i64 s.f1, .int .i64 s.f2, .int .i64 s.f3] 25)).heap.size := Nat.le_trans hkz (by simp)
  replace OX := OX.alloc (.cells #[.int .i64 s.f0, .int .i64 s.f1, .int .i64 s.f2, .int .i64 s.f3] 25)
  replace bC := bC.alloc (.cells #[.int .i64 s.f0, .int .i64 s.f1, .int .i64 s.f2, .int .i64 s.f3] 25)
  replace R := R.alloc HB.size (.cells #[.int .i64 s.f0, .int .i64 s.f1, .int .i64 s.f2, .int .i64 s.f3] 25)
  have bY := Blk.new (w1.alloc (.cells #[.int .i64 W, .int .i64 H, .slice A2 xs.length c2] 33)) #[.int .i64 s.f0, .int .i64 s.f1, .int .i64 s.f2, .int .i64 s.f3] 25
  replace HB := HB.alloc HB.size (.cells #[.int .i64 s.f0, .int .i64 s.f1, .int .i64 s.f2, .int .i64 s.f3] 25)
  replace bY := bY.at_ (q := w1.heap.size + 1) (by simp)
  obtain ⟨cn, hcn⟩ : ∃ vv, carpX W H xs s ss = vv := ⟨_, rfl⟩
  obtain ⟨ck, hck⟩ : ∃ vv, carpB W H xs s ss = vv := ⟨_, rfl⟩
  obtain ⟨sl, hsl⟩ : ∃ vv, shortX W H xs s ss = vv := ⟨_, rfl⟩
  have hsb : shortB W H xs s ss = ck := hck
  have hCi : Hid (∀ (w : World) (A : Option Addr) (c : Nat), Rd w w.heap.size A xs.length c xs → Rd w KS (some ⟨g, off, none⟩) n2 c3 ss → KS ≤ w.heap.size → Calls Try.prog 21 #[chartV W H (.slice A xs.length c), .agg #[.int .i64 s.f0, .int .i64 s.f1, .int .i64 s.f2, .int .i64 s.f3], .slice (some ⟨g, off, none⟩) n2 c3] w (Out w (.tuple #[.int .i64 cn, .bool ck]))) := Lib.hid fun w A c h k hk => (by have := implCarpetsFrom_any W H A _ c _ xs s _ n2 c3 KS ss w h k (Nat.le_refl _) hk; rw [hcn, hck] at this; exact this)
  have hCs : Hid (∀ (w : World) (A : Option Addr) (c : Nat), Rd w w.heap.size A xs.length c xs → Rd w KS (some ⟨g, off, none⟩) n2 c3 ss → KS ≤ w.heap.size → Calls Try.prog 22 #[chartV W H (.slice A xs.length c), .agg #[.int .i64 s.f0, .int .i64 s.f1, .int .i64 s.f2, .int .i64 s.f3], .slice (some ⟨g, off, none⟩) n2 c3] w (Out w (.tuple #[.int .i64 cn, .bool ck]))) := Lib.hid fun w A c h k hk => (by have := specCarpetsFrom_any W H A _ c _ xs s _ n2 c3 KS ss w h k (Nat.le_refl _) hk; rw [hcn, hck] at this; exact this)
  have hSi : Hid (∀ (w : World) (A : Option Addr) (c : Nat), Rd w w.heap.size A xs.length c xs → Rd w KS (some ⟨g, off, none⟩) n2 c3 ss → KS ≤ w.heap.size → Calls Try.prog 23 #[chartV W H (.slice A xs.length c), .agg #[.int .i64 s.f0, .int .i64 s.f1, .int .i64 s.f2, .int .i64 s.f3], .slice (some ⟨g, off, none⟩) n2 c3] w (OutInts w sl ck)) := Lib.hid fun w A c h k hk => (by have := implShortColors_any W H A _ c _ xs s _ n2 c3 KS ss w h k (Nat.le_refl _) hk; rw [hsl, hsb] at this; exact this)
  have hSs : Hid (∀ (w : World) (A : Option Addr) (c : Nat), Rd w w.heap.size A xs.length c xs → Rd w KS (some ⟨g, off, none⟩) n2 c3 ss → KS ≤ w.heap.size → Calls Try.prog 24 #[chartV W H (.slice A xs.length c), .agg #[.int .i64 s.f0, .int .i64 s.f1, .int .i64 s.f2, .int .i64 s.f3], .slice (some ⟨g, off, none⟩) n2 c3] w (OutInts w sl ck)) := Lib.hid fun w A c h k hk => (by have := specShortColors_any W H A _ c _ xs s _ n2 c3 KS ss w h k (Nat.le_refl _) hk; rw [hsl, hsb] at this; exact this)
  have HCS : Hid (ck = true → (0 < cn → sl = []) ∧ (¬ 0 < cn → sl ≠ [])) := Lib.hid fun hh => by
    have := carp_short (hck.trans hh)
    rw [hcn, hsl] at this
    exact this
  clear hcn hck hsl hsb hs hsm
  have ebC0 := bC.cell 0
  have ebC1 := bC.cell 1
  have ebC2 := bC.cell 2
  have zbC := bC.lt
  have ebY0 := bY.cell 0
  have ebY1 := bY.cell 1
  have ebY2 := bY.cell 2
  have ebY3 := bY.cell 3
  have zbY := bY.lt
  go_wp2_with fail
  refine (hCi.out _ _ _ OX.rd RS hkz).mono ?_
  rintro e w2 ⟨rfl, hb⟩
  clear ebC0 ebC1 ebC2 zbC ebY0 ebY1 ebY2 ebY3 zbY
  replace OX := OX.all hb
  replace bC := bC.all hb
  replace bY := bY.all hb
  replace R := R.all hb HB.size
  replace RS := RS.all hb hkz
  replace hkz := Nat.le_trans hkz (hb).size
  replace HB := HB.trans (hb.mono HB.size)
  clear hb
  have ebC0 := bC.cell 0
  have ebC1 := bC.cell 1
  have ebC2 := bC.cell 2
  have zbC := bC.lt
  have ebY0 := bY.cell 0
  have ebY1 := bY.cell 1
  have ebY2 := bY.cell 2
  have ebY3 := bY.cell 3
  have zbY := bY.lt
  go_wp2_with fail
  refine (hCs.out _ _ _ OX.rd RS hkz).mono ?_
  rintro e w3 ⟨rfl, hb⟩
  clear ebC0 ebC1 ebC2 zbC ebY0 ebY1 ebY2 ebY3 zbY
  replace OX := OX.all hb
  replace bC := bC.all hb
  replace bY := bY.all hb
  replace R := R.all hb HB.size
  replace RS := RS.all hb hkz
  replace hkz := Nat.le_trans hkz (hb).size
  replace HB := HB.trans (hb.mono HB.size)
  clear hb
  clear hCi hCs
  have ebC0 := bC.cell 0
  have ebC1 := bC.cell 1
  have ebC2 := bC.cell 2
  have zbC := bC.lt
  have ebY0 := bY.cell 0
  have ebY1 := bY.cell 1
  have ebY2 := bY.cell 2
  have ebY3 := bY.cell 3
  have zbY := bY.lt
  go_wp2_with fail
  refine (hSi.out _ _ _ OX.rd RS hkz).mono ?_
  rintro e w4 ⟨A3, c4, rfl, own, hb⟩
  clear ebC0 ebC1 ebC2 zbC ebY0 ebY1 ebY2 ebY3 zbY
  replace OX := OX.all hb
  replace bC := bC.all hb
  replace bY := bY.all hb
  replace R := R.all hb HB.size
  replace RS := RS.all hb hkz
  replace hkz := Nat.le_trans hkz (hb).size
  have OS := own.mono HB.size
  clear own
  replace HB := HB.trans (hb.mono HB.size)
  clear hb
  have ebC0 := bC.cell 0
  have ebC1 := bC.cell 1
  have ebC2 := bC.cell 2
  have zbC := bC.lt
  have ebY0 := bY.cell 0
  have ebY1 := bY.cell 1
  have ebY2 := bY.cell 2
  have ebY3 := bY.cell 3
  have zbY := bY.lt
  go_wp2_with fail
  refine (hSs.out _ _ _ OX.rd RS hkz).mono ?_
  rintro e w5 ⟨A4, c5, rfl, own, hb⟩
  clear ebC0 ebC1 ebC2 zbC ebY0 ebY1 ebY2 ebY3 zbY
  replace OX := OX.all hb
  replace OS := OS.all hb
  replace bC := bC.all hb
  replace bY := bY.all hb
  replace R := R.all hb HB.size
  replace RS := RS.all hb hkz
  replace hkz := Nat.le_trans hkz (hb).size
  have OT := own.mono HB.size
  clear own
  replace HB := HB.trans (hb.mono HB.size)
  clear hb
  clear hSi hSs
  have ebC0 := bC.cell 0
  have ebC1 := bC.cell 1
  have ebC2 := bC.cell 2
  have zbC := bC.lt
  have ebY0 := bY.cell 0
  have ebY1 := bY.cell 1
  have ebY2 := bY.cell 2
  have ebY3 := bY.cell 3
  have zbY := bY.lt
  go_wp2_with fail
  refine (vInts_low _ _ _ _ _ _ _ _ sl _ OS.rd OT.rd).mono ?_
  rintro e w6 ⟨rfl, hb⟩
  clear ebC0 ebC1 ebC2 zbC ebY0 ebY1 ebY2 ebY3 zbY
  replace OX := OX.all hb
  replace OS := OS.all hb
  replace OT := OT.all hb
  replace bC := bC.all hb
  replace bY := bY.all hb
  replace R := R.all hb HB.size
  replace RS := RS.all hb hkz
  replace hkz := Nat.le_trans hkz (hb).size
  replace HB := HB.trans (hb.mono HB.size)
  clear hb
  clear OS OT OX bC bY
  clear RS hkz
  cases ck
  case false =>
    clear HCS
    go_wp2_with fail
    refine (drawHungriestColor_any A n c w.heap.size _ R HB.size hn).mono ?_
    rintro e w7 ⟨U, V, A5, c6, ys, rfl, hsm, own, hb⟩
    replace R := R.all hb HB.size
    have OY := own.mono HB.size
    clear own
    replace HB := HB.trans (hb.mono HB.size)
    clear hb
    replace OY := OY.alloc (.cells #[.int .i64 U, .int .i64 V, .slice A5 ys.length c6] 33)
    replace R := R.alloc HB.size (.cells #[.int .i64 U, .int .i64 V, .slice A5 ys.length c6] 33)
    have bX := Blk.new w7 #[.int .i64 U, .int .i64 V, .slice A5 ys.length c6] 33
    replace HB := HB.alloc HB.size (.cells #[.int .i64 U, .int .i64 V, .slice A5 ys.length c6] 33)
    obtain ⟨hc, hhc⟩ : ∃ vv, hungryX U V ys = vv := ⟨_, rfl⟩
    obtain ⟨gb, hgb⟩ : ∃ vv, goodB U V ys = vv := ⟨_, rfl⟩
    have hHi : Hid (∀ (w : World) (A : Option Addr) (c : Nat), Rd w w.heap.size A ys.length c ys → Calls Try.prog 26 #[chartV U V (.slice A ys.length c)] w (Out w (.tuple #[.int .i64 hc, .bool gb]))) := Lib.hid fun w A c h => (by have := implHungriestColor_any U V A _ c _ ys w h (Nat.le_refl _); rw [hhc, hgb] at this; exact this)
    have hHs : Hid (∀ (w : World) (A : Option Addr) (c : Nat), Rd w w.heap.size A ys.length c ys → Calls Try.prog 27 #[chartV U V (.slice A ys.length c)] w (Out w (.tuple #[.int .i64 hc, .bool gb]))) := Lib.hid fun w A c h => (by have := specHungriestColor_any U V A _ c _ ys w h (Nat.le_refl _); rw [hhc, hgb] at this; exact this)
    have HSH : Hid (gb = true → ∃ a b : Int, (0 ≤ a ∧ a ≤ 64) ∧ (0 ≤ b ∧ b ≤ 64) ∧ (∀ (w : World) (A : Option Addr) (c : Nat), Rd w w.heap.size A ys.length c ys → Calls Try.prog 28 #[chartV U V (.slice A ys.length c), .int .i64 hc] w (Out w (.tuple #[.int .i64 a, .int .i64 b, .bool true]))) ∧ ∀ k : Nat, k < 6 → ∃ p q : Int, (0 ≤ p ∧ p ≤ 64) ∧ (0 ≤ q ∧ q ≤ 64) ∧ ¬ a * q < p * b ∧ ∀ (w : World) (A : Option Addr) (c : Nat), Rd w w.heap.size A ys.length c ys → Calls Try.prog 28 #[chartV U V (.slice A ys.length c), .int .i64 k] w (Out w (.tuple #[.int .i64 p, .int .i64 q, .bool true]))) := Lib.hid fun hh => by
      have := shares_calls (hgb.trans hh)
      rw [hhc] at this
      exact this
    clear hhc hgb hsm
    have ebX0 := bX.cell 0
    have ebX1 := bX.cell 1
    have ebX2 := bX.cell 2
    have zbX := bX.lt
    go_wp2_with fail
    refine (hHi.out _ _ _ OY.rd).mono ?_
    rintro e w8 ⟨rfl, hb⟩
    clear ebX0 ebX1 ebX2 zbX
    replace OY := OY.all hb
    replace bX := bX.all hb
    replace R := R.all hb HB.size
    replace HB := HB.trans (hb.mono HB.size)
    clear hb
    have ebX0 := bX.cell 0
    have ebX1 := bX.cell 1
    have ebX2 := bX.cell 2
    have zbX := bX.lt
    go_wp2_with fail
    refine (hHs.out _ _ _ OY.rd).mono ?_
    rintro e w9 ⟨rfl, hb⟩
    clear ebX0 ebX1 ebX2 zbX
    replace OY := OY.all hb
    replace bX := bX.all hb
    replace R := R.all hb HB.size
    replace HB := HB.trans (hb.mono HB.size)
    clear hb
    clear hHi hHs
    cases gb
    case false =>
      clear HSH
      clear OY bX
      go_wp2_with fail
      refine (drawColorShare_any A n c w.heap.size _ R HB.size hn).mono ?_
      rintro e w10 ⟨P, Q, A7, c7, zs, kk, rfl, hsm, hkk, own, hb⟩
      replace R := R.all hb HB.size
      have OZ := own.mono HB.size
      clear own
      replace HB := HB.trans (hb.mono HB.size)
      clear hb
      replace OZ := OZ.alloc (.cells #[.int .i64 P, .int .i64 Q, .slice A7 zs.length c7] 33)
      replace R := R.alloc HB.size (.cells #[.int .i64 P, .int .i64 Q, .slice A7 zs.length c7] 33)
      have bZ := Blk.new w10 #[.int .i64 P, .int .i64 Q, .slice A7 zs.length c7] 33
      replace HB := HB.alloc HB.size (.cells #[.int .i64 P, .int .i64 Q, .slice A7 zs.length c7] 33)
      obtain ⟨p0, hp0⟩ : ∃ vv, shareP P Q zs kk = vv := ⟨_, rfl⟩
      obtain ⟨p1, hp1⟩ : ∃ vv, shareQ P Q zs kk = vv := ⟨_, rfl⟩
      obtain ⟨p2, hp2⟩ : ∃ vv, shareB P Q zs kk = vv := ⟨_, rfl⟩
      have hZi : Hid (∀ (w : World) (A : Option Addr) (c : Nat), Rd w w.heap.size A zs.length c zs → Calls Try.prog 28 #[chartV P Q (.slice A zs.length c), .int .i64 kk] w (Out w (.tuple #[.int .i64 p0, .int .i64 p1, .bool p2]))) := Lib.hid fun w A c h => (by have := implColorShare_any P Q A _ c _ zs kk w h (Nat.le_refl _); rw [hp0, hp1, hp2] at this; exact this)
      have hZs : Hid (∀ (w : World) (A : Option Addr) (c : Nat), Rd w w.heap.size A zs.length c zs → Calls Try.prog 30 #[chartV P Q (.slice A zs.length c), .int .i64 kk] w (Out w (.tuple #[.int .i64 p0, .int .i64 p1, .bool p2]))) := Lib.hid fun w A c h => (by have := specColorShare_any P Q A _ c _ zs kk w h (Nat.le_refl _); rw [hp0, hp1, hp2] at this; exact this)
      clear hp0 hp1 hp2 hsm hkk
      have ebZ0 := bZ.cell 0
      have ebZ1 := bZ.cell 1
      have ebZ2 := bZ.cell 2
      have zbZ := bZ.lt
      go_wp2_with fail
      refine (hZi.out _ _ _ OZ.rd).mono ?_
      rintro e w11 ⟨rfl, hb⟩
      clear ebZ0 ebZ1 ebZ2 zbZ
      replace OZ := OZ.all hb
      replace bZ := bZ.all hb
      replace R := R.all hb HB.size
      replace HB := HB.trans (hb.mono HB.size)
      clear hb
      have ebZ0 := bZ.cell 0
      have ebZ1 := bZ.cell 1
      have ebZ2 := bZ.cell 2
      have zbZ := bZ.lt
      go_wp2_with fail
      refine (hZs.out _ _ _ OZ.rd).mono ?_
      rintro e w12 ⟨rfl, hb⟩
      clear ebZ0 ebZ1 ebZ2 zbZ
      replace OZ := OZ.all hb
      replace bZ := bZ.all hb
      replace R := R.all hb HB.size
      replace HB := HB.trans (hb.mono HB.size)
      clear hb
      go_wp2
      go_ret
      exact ⟨ret_bool (by simp), HB⟩
    case true =>
      obtain ⟨a, b, ha, hb6, hc1, hks⟩ := HSH.out rfl
      have HC1 := Lib.hid hc1
      have HKS := Lib.hid hks
      clear HSH hc1 hks
      have ebX0 := bX.cell 0
      have ebX1 := bX.cell 1
      have ebX2 := bX.cell 2
      have zbX := bX.lt
      go_wp2_with fail
      refine (HC1.out _ _ _ OY.rd).mono ?_
      rintro e w10 ⟨rfl, hb⟩
      clear ebX0 ebX1 ebX2 zbX
      replace OY := OY.all hb
      replace bX := bX.all hb
      replace R := R.all hb HB.size
      replace HB := HB.trans (hb.mono HB.size)
      clear hb
      clear HC1
      have hPw := bX.lt
      obtain ⟨PX, hPX⟩ : ∃ q, w7.heap.size = q := ⟨_, rfl⟩
      rw [hPX] at bX hPw ⊢
      clear hPX
      go_wp2
      go_loopw [22] (fun ii wr => ∃ k : Nat, k ≤ 6 ∧ ii = .int .i64 k ∧ Own wr w.heap.size (.slice A5 ys.length c6) ys ∧ Blk wr PX 33 #[.int .i64 U, .int .i64 V, .slice A5 ys.length c6] ∧ RdB wr w.heap.size A n c ∧ Below w.heap.size w wr) (fun ii _ => 6 - (intOf ii).toNat)
      case atStart => exact ⟨0, by omega, rfl, OY, bX, R, HB⟩
      case round =>
        clear OY bX R HB hPw
        obtain ⟨k, hk, rfl, OY, bX, R, HB⟩ := hrel
        have hPw := bX.lt
        by_cases hlt : k < 6
        · obtain ⟨p, q, hp, hq, hle, hc2⟩ := HKS.out k hlt
          have HC2 := Lib.hid hc2
          have hk0 : (0 : Int) ≤ (k : Int) := by omega
          have hk1 : (k : Int) < 6 := by omega
          have M1 := mul_bd hp.1 hp.2 hb6.1 hb6.2
          have M2 := mul_bd ha.1 ha.2 hq.1 hq.2
          have E1 : IntKind.i64.wrap (p * b) = p * b := IntWalk.i64_in _ (by omega)
          have E2 : IntKind.i64.wrap (a * q) = a * q := IntWalk.i64_in _ (by omega)
          have F1 : decide (a * q < p * b) = false := decide_eq_false (by omega)
          have F2 : ¬ a * q < p * b := by omega
          clear hc2 M1 M2 hle
          have ebX0 := bX.cell 0
          have ebX1 := bX.cell 1
          have ebX2 := bX.cell 2
          have zbX := bX.lt
          go_wp2_with fail
          refine (HC2.out _ _ _ OY.rd).mono ?_
          rintro e w12 ⟨rfl, hb⟩
          clear ebX0 ebX1 ebX2 zbX
          replace OY := OY.all hb
          replace bX := bX.all hb
          replace R := R.all hb HB.size
          replace HB := HB.trans (hb.mono HB.size)
          clear hb
          go_wp2
          go_roundw
          case rel => exact ⟨k + 1, by omega, by go_num, OY, bX, R, HB⟩
          case measure => simp [intOf]; omega
        · obtain rfl : k = 6 := by omega
          clear HKS hPw
          clear OY bX
          go_wp2_with fail
          refine (drawColorShare_any A n c w.heap.size _ R HB.size hn).mono ?_
          rintro e w12 ⟨P, Q, A7, c7, zs, kk, rfl, hsm, hkk, own, hb⟩
          replace R := R.all hb HB.size
          have OZ := own.mono HB.size
          clear own
          replace HB := HB.trans (hb.mono HB.size)
          clear hb
          replace OZ := OZ.alloc (.cells #[.int .i64 P, .int .i64 Q, .slice A7 zs.length c7] 33)
          replace R := R.alloc HB.size (.cells #[.int .i64 P, .int .i64 Q, .slice A7 zs.length c7] 33)
          have bZ := Blk.new w12 #[.int .i64 P, .int .i64 Q, .slice A7 zs.length c7] 33
          replace HB := HB.alloc HB.size (.cells #[.int .i64 P, .int .i64 Q, .slice A7 zs.length c7] 33)
          obtain ⟨p0, hp0⟩ : ∃ vv, shareP P Q zs kk = vv := ⟨_, rfl⟩
          obtain ⟨p1, hp1⟩ : ∃ vv, shareQ P Q zs kk = vv := ⟨_, rfl⟩
          obtain ⟨p2, hp2⟩ : ∃ vv, shareB P Q zs kk = vv := ⟨_, rfl⟩
          have hZi : Hid (∀ (w : World) (A : Option Addr) (c : Nat), Rd w w.heap.size A zs.length c zs → Calls Try.prog 28 #[chartV P Q (.slice A zs.length c), .int .i64 kk] w (Out w (.tuple #[.int .i64 p0, .int .i64 p1, .bool p2]))) := Lib.hid fun w A c h => (by have := implColorShare_any P Q A _ c _ zs kk w h (Nat.le_refl _); rw [hp0, hp1, hp2] at this; exact this)
          have hZs : Hid (∀ (w : World) (A : Option Addr) (c : Nat), Rd w w.heap.size A zs.length c zs → Calls Try.prog 30 #[chartV P Q (.slice A zs.length c), .int .i64 kk] w (Out w (.tuple #[.int .i64 p0, .int .i64 p1, .bool p2]))) := Lib.hid fun w A c h => (by have := specColorShare_any P Q A _ c _ zs kk w h (Nat.le_refl _); rw [hp0, hp1, hp2] at this; exact this)
          clear hp0 hp1 hp2 hsm hkk
          have ebZ0 := bZ.cell 0
          have ebZ1 := bZ.cell 1
          have ebZ2 := bZ.cell 2
          have zbZ := bZ.lt
          go_wp2_with fail
          refine (hZi.out _ _ _ OZ.rd).mono ?_
          rintro e w13 ⟨rfl, hb⟩
          clear ebZ0 ebZ1 ebZ2 zbZ
          replace OZ := OZ.all hb
          replace bZ := bZ.all hb
          replace R := R.all hb HB.size
          replace HB := HB.trans (hb.mono HB.size)
          clear hb
          have ebZ0 := bZ.cell 0
          have ebZ1 := bZ.cell 1
          have ebZ2 := bZ.cell 2
          have zbZ := bZ.lt
          go_wp2_with fail
          refine (hZs.out _ _ _ OZ.rd).mono ?_
          rintro e w14 ⟨rfl, hb⟩
          clear ebZ0 ebZ1 ebZ2 zbZ
          replace OZ := OZ.all hb
          replace bZ := bZ.all hb
          replace R := R.all hb HB.size
          replace HB := HB.trans (hb.mono HB.size)
          clear hb
          go_wp2
          go_ret
          exact ⟨ret_bool (by simp), HB⟩
  case true =>
    obtain ⟨h1, h2⟩ := HCS.out rfl
    by_cases hp : 0 < cn
    · obtain rfl := h1 hp
      clear h1 h2
      have hpd : decide (0 < cn) = true := decide_eq_true hp
      go_wp2_with fail
      refine (drawHungriestColor_any A n c w.heap.size _ R HB.size hn).mono ?_
      rintro e w7 ⟨U, V, A5, c6, ys, rfl, hsm, own, hb⟩
      replace R := R.all hb HB.size
      have OY := own.mono HB.size
      clear own
      replace HB := HB.trans (hb.mono HB.size)
      clear hb
      replace OY := OY.alloc (.cells #[.int .i64 U, .int .i64 V, .slice A5 ys.length c6] 33)
      replace R := R.alloc HB.size (.cells #[.int .i64 U, .int .i64 V, .slice A5 ys.length c6] 33)
      have bX := Blk.new w7 #[.int .i64 U, .int .i64 V, .slice A5 ys.length c6] 33
      replace HB := HB.alloc HB.size (.cells #[.int .i64 U, .int .i64 V, .slice A5 ys.length c6] 33)
      obtain ⟨hc, hhc⟩ : ∃ vv, hungryX U V ys = vv := ⟨_, rfl⟩
      obtain ⟨gb, hgb⟩ : ∃ vv, goodB U V ys = vv := ⟨_, rfl⟩
      have hHi : Hid (∀ (w : World) (A : Option Addr) (c : Nat), Rd w w.heap.size A ys.length c ys → Calls Try.prog 26 #[chartV U V (.slice A ys.length c)] w (Out w (.tuple #[.int .i64 hc, .bool gb]))) := Lib.hid fun w A c h => (by have := implHungriestColor_any U V A _ c _ ys w h (Nat.le_refl _); rw [hhc, hgb] at this; exact this)
      have hHs : Hid (∀ (w : World) (A : Option Addr) (c : Nat), Rd w w.heap.size A ys.length c ys → Calls Try.prog 27 #[chartV U V (.slice A ys.length c)] w (Out w (.tuple #[.int .i64 hc, .bool gb]))) := Lib.hid fun w A c h => (by have := specHungriestColor_any U V A _ c _ ys w h (Nat.le_refl _); rw [hhc, hgb] at this; exact this)
      have HSH : Hid (gb = true → ∃ a b : Int, (0 ≤ a ∧ a ≤ 64) ∧ (0 ≤ b ∧ b ≤ 64) ∧ (∀ (w : World) (A : Option Addr) (c : Nat), Rd w w.heap.size A ys.length c ys → Calls Try.prog 28 #[chartV U V (.slice A ys.length c), .int .i64 hc] w (Out w (.tuple #[.int .i64 a, .int .i64 b, .bool true]))) ∧ ∀ k : Nat, k < 6 → ∃ p q : Int, (0 ≤ p ∧ p ≤ 64) ∧ (0 ≤ q ∧ q ≤ 64) ∧ ¬ a * q < p * b ∧ ∀ (w : World) (A : Option Addr) (c : Nat), Rd w w.heap.size A ys.length c ys → Calls Try.prog 28 #[chartV U V (.slice A ys.length c), .int .i64 k] w (Out w (.tuple #[.int .i64 p, .int .i64 q, .bool true]))) := Lib.hid fun hh => by
        have := shares_calls (hgb.trans hh)
        rw [hhc] at this
        exact this
      clear hhc hgb hsm
      have ebX0 := bX.cell 0
      have ebX1 := bX.cell 1
      have ebX2 := bX.cell 2
      have zbX := bX.lt
      go_wp2_with fail
      refine (hHi.out _ _ _ OY.rd).mono ?_
      rintro e w8 ⟨rfl, hb⟩
      clear ebX0 ebX1 ebX2 zbX
      replace OY := OY.all hb
      replace bX := bX.all hb
      replace R := R.all hb HB.size
      replace HB := HB.trans (hb.mono HB.size)
      clear hb
      have ebX0 := bX.cell 0
      have ebX1 := bX.cell 1
      have ebX2 := bX.cell 2
      have zbX := bX.lt
      go_wp2_with fail
      refine (hHs.out _ _ _ OY.rd).mono ?_
      rintro e w9 ⟨rfl, hb⟩
      clear ebX0 ebX1 ebX2 zbX
      replace OY := OY.all hb
      replace bX := bX.all hb
      replace R := R.all hb HB.size
      replace HB := HB.trans (hb.mono HB.size)
      clear hb
      clear hHi hHs
      cases gb
      case false =>
        clear HSH
        clear OY bX
        go_wp2_with fail
        refine (drawColorShare_any A n c w.heap.size _ R HB.size hn).mono ?_
        rintro e w10 ⟨P, Q, A7, c7, zs, kk, rfl, hsm, hkk, own, hb⟩
        replace R := R.all hb HB.size
        have OZ := own.mono HB.size
        clear own
        replace HB := HB.trans (hb.mono HB.size)
        clear hb
        replace OZ := OZ.alloc (.cells #[.int .i64 P, .int .i64 Q, .slice A7 zs.length c7] 33)
        replace R := R.alloc HB.size (.cells #[.int .i64 P, .int .i64 Q, .slice A7 zs.length c7] 33)
        have bZ := Blk.new w10 #[.int .i64 P, .int .i64 Q, .slice A7 zs.length c7] 33
        replace HB := HB.alloc HB.size (.cells #[.int .i64 P, .int .i64 Q, .slice A7 zs.length c7] 33)
        obtain ⟨p0, hp0⟩ : ∃ vv, shareP P Q zs kk = vv := ⟨_, rfl⟩
        obtain ⟨p1, hp1⟩ : ∃ vv, shareQ P Q zs kk = vv := ⟨_, rfl⟩
        obtain ⟨p2, hp2⟩ : ∃ vv, shareB P Q zs kk = vv := ⟨_, rfl⟩
        have hZi : Hid (∀ (w : World) (A : Option Addr) (c : Nat), Rd w w.heap.size A zs.length c zs → Calls Try.prog 28 #[chartV P Q (.slice A zs.length c), .int .i64 kk] w (Out w (.tuple #[.int .i64 p0, .int .i64 p1, .bool p2]))) := Lib.hid fun w A c h => (by have := implColorShare_any P Q A _ c _ zs kk w h (Nat.le_refl _); rw [hp0, hp1, hp2] at this; exact this)
        have hZs : Hid (∀ (w : World) (A : Option Addr) (c : Nat), Rd w w.heap.size A zs.length c zs → Calls Try.prog 30 #[chartV P Q (.slice A zs.length c), .int .i64 kk] w (Out w (.tuple #[.int .i64 p0, .int .i64 p1, .bool p2]))) := Lib.hid fun w A c h => (by have := specColorShare_any P Q A _ c _ zs kk w h (Nat.le_refl _); rw [hp0, hp1, hp2] at this; exact this)
        clear hp0 hp1 hp2 hsm hkk
        have ebZ0 := bZ.cell 0
        have ebZ1 := bZ.cell 1
        have ebZ2 := bZ.cell 2
        have zbZ := bZ.lt
        go_wp2_with fail
        refine (hZi.out _ _ _ OZ.rd).mono ?_
        rintro e w11 ⟨rfl, hb⟩
        clear ebZ0 ebZ1 ebZ2 zbZ
        replace OZ := OZ.all hb
        replace bZ := bZ.all hb
        replace R := R.all hb HB.size
        replace HB := HB.trans (hb.mono HB.size)
        clear hb
        have ebZ0 := bZ.cell 0
        have ebZ1 := bZ.cell 1
        have ebZ2 := bZ.cell 2
        have zbZ := bZ.lt
        go_wp2_with fail
        refine (hZs.out _ _ _ OZ.rd).mono ?_
        rintro e w12 ⟨rfl, hb⟩
        clear ebZ0 ebZ1 ebZ2 zbZ
        replace OZ := OZ.all hb
        replace bZ := bZ.all hb
        replace R := R.all hb HB.size
        replace HB := HB.trans (hb.mono HB.size)
        clear hb
        go_wp2
        go_ret
        exact ⟨ret_bool (by simp), HB⟩
      case true =>
        obtain ⟨a, b, ha, hb6, hc1, hks⟩ := HSH.out rfl
        have HC1 := Lib.hid hc1
        have HKS := Lib.hid hks
        clear HSH hc1 hks
        have ebX0 := bX.cell 0
        have ebX1 := bX.cell 1
        have ebX2 := bX.cell 2
        have zbX := bX.lt
        go_wp2_with fail
        refine (HC1.out _ _ _ OY.rd).mono ?_
        rintro e w10 ⟨rfl, hb⟩
        clear ebX0 ebX1 ebX2 zbX
        replace OY := OY.all hb
        replace bX := bX.all hb
        replace R := R.all hb HB.size
        replace HB := HB.trans (hb.mono HB.size)
        clear hb
        clear HC1
        have hPw := bX.lt
        obtain ⟨PX, hPX⟩ : ∃ q, w7.heap.size = q := ⟨_, rfl⟩
        rw [hPX] at bX hPw ⊢
        clear hPX
        go_wp2
        go_loopw [22] (fun ii wr => ∃ k : Nat, k ≤ 6 ∧ ii = .int .i64 k ∧ Own wr w.heap.size (.slice A5 ys.length c6) ys ∧ Blk wr PX 33 #[.int .i64 U, .int .i64 V, .slice A5 ys.length c6] ∧ RdB wr w.heap.size A n c ∧ Below w.heap.size w wr) (fun ii _ => 6 - (intOf ii).toNat)
        case atStart => exact ⟨0, by omega, rfl, OY, bX, R, HB⟩
        case round =>
          clear OY bX R HB hPw
          obtain ⟨k, hk, rfl, OY, bX, R, HB⟩ := hrel
          have hPw := bX.lt
          by_cases hlt : k < 6
          · obtain ⟨p, q, hp, hq, hle, hc2⟩ := HKS.out k hlt
            have HC2 := Lib.hid hc2
            have hk0 : (0 : Int) ≤ (k : Int) := by omega
            have hk1 : (k : Int) < 6 := by omega
            have M1 := mul_bd hp.1 hp.2 hb6.1 hb6.2
            have M2 := mul_bd ha.1 ha.2 hq.1 hq.2
            have E1 : IntKind.i64.wrap (p * b) = p * b := IntWalk.i64_in _ (by omega)
            have E2 : IntKind.i64.wrap (a * q) = a * q := IntWalk.i64_in _ (by omega)
            have F1 : decide (a * q < p * b) = false := decide_eq_false (by omega)
            have F2 : ¬ a * q < p * b := by omega
            clear hc2 M1 M2 hle
            have ebX0 := bX.cell 0
            have ebX1 := bX.cell 1
            have ebX2 := bX.cell 2
            have zbX := bX.lt
            go_wp2_with fail
            refine (HC2.out _ _ _ OY.rd).mono ?_
            rintro e w12 ⟨rfl, hb⟩
            clear ebX0 ebX1 ebX2 zbX
            replace OY := OY.all hb
            replace bX := bX.all hb
            replace R := R.all hb HB.size
            replace HB := HB.trans (hb.mono HB.size)
            clear hb
            go_wp2
            go_roundw
            case rel => exact ⟨k + 1, by omega, by go_num, OY, bX, R, HB⟩
            case measure => simp [intOf]; omega
          · obtain rfl : k = 6 := by omega
            clear HKS hPw
            clear OY bX
            go_wp2_with fail
            refine (drawColorShare_any A n c w.heap.size _ R HB.size hn).mono ?_
            rintro e w12 ⟨P, Q, A7, c7, zs, kk, rfl, hsm, hkk, own, hb⟩
            replace R := R.all hb HB.size
            have OZ := own.mono HB.size
            clear own
            replace HB := HB.trans (hb.mono HB.size)
            clear hb
            replace OZ := OZ.alloc (.cells #[.int .i64 P, .int .i64 Q, .slice A7 zs.length c7] 33)
            replace R := R.alloc HB.size (.cells #[.int .i64 P, .int .i64 Q, .slice A7 zs.length c7] 33)
            have bZ := Blk.new w12 #[.int .i64 P, .int .i64 Q, .slice A7 zs.length c7] 33
            replace HB := HB.alloc HB.size (.cells #[.int .i64 P, .int .i64 Q, .slice A7 zs.length c7] 33)
            obtain ⟨p0, hp0⟩ : ∃ vv, shareP P Q zs kk = vv := ⟨_, rfl⟩
            obtain ⟨p1, hp1⟩ : ∃ vv, shareQ P Q zs kk = vv := ⟨_, rfl⟩
            obtain ⟨p2, hp2⟩ : ∃ vv, shareB P Q zs kk = vv := ⟨_, rfl⟩
            have hZi : Hid (∀ (w : World) (A : Option Addr) (c : Nat), Rd w w.heap.size A zs.length c zs → Calls Try.prog 28 #[chartV P Q (.slice A zs.length c), .int .i64 kk] w (Out w (.tuple #[.int .i64 p0, .int .i64 p1, .bool p2]))) := Lib.hid fun w A c h => (by have := implColorShare_any P Q A _ c _ zs kk w h (Nat.le_refl _); rw [hp0, hp1, hp2] at this; exact this)
            have hZs : Hid (∀ (w : World) (A : Option Addr) (c : Nat), Rd w w.heap.size A zs.length c zs → Calls Try.prog 30 #[chartV P Q (.slice A zs.length c), .int .i64 kk] w (Out w (.tuple #[.int .i64 p0, .int .i64 p1, .bool p2]))) := Lib.hid fun w A c h => (by have := specColorShare_any P Q A _ c _ zs kk w h (Nat.le_refl _); rw [hp0, hp1, hp2] at this; exact this)
            clear hp0 hp1 hp2 hsm hkk
            have ebZ0 := bZ.cell 0
            have ebZ1 := bZ.cell 1
            have ebZ2 := bZ.cell 2
            have zbZ := bZ.lt
            go_wp2_with fail
            refine (hZi.out _ _ _ OZ.rd).mono ?_
            rintro e w13 ⟨rfl, hb⟩
            clear ebZ0 ebZ1 ebZ2 zbZ
            replace OZ := OZ.all hb
            replace bZ := bZ.all hb
            replace R := R.all hb HB.size
            replace HB := HB.trans (hb.mono HB.size)
            clear hb
            have ebZ0 := bZ.cell 0
            have ebZ1 := bZ.cell 1
            have ebZ2 := bZ.cell 2
            have zbZ := bZ.lt
            go_wp2_with fail
            refine (hZs.out _ _ _ OZ.rd).mono ?_
            rintro e w14 ⟨rfl, hb⟩
            clear ebZ0 ebZ1 ebZ2 zbZ
            replace OZ := OZ.all hb
            replace bZ := bZ.all hb
            replace R := R.all hb HB.size
            replace HB := HB.trans (hb.mono HB.size)
            clear hb
            go_wp2
            go_ret
            exact ⟨ret_bool (by simp), HB⟩
    · have hne := h2 (by omega)
      have hl0 : ((sl.length : Int) == 0) = false := by cases sl with | nil => exact absurd rfl hne | cons a l => simp; omega
      have hl1 : ¬ ((sl.length : Int) = 0) := by cases sl with | nil => exact absurd rfl hne | cons a l => simp; omega
      clear h1 h2 hne
      have hpd : decide (0 < cn) = false := decide_eq_false (by omega)
      go_wp2_with fail
      refine (drawHungriestColor_any A n c w.heap.size _ R HB.size hn).mono ?_
      rintro e w7 ⟨U, V, A5, c6, ys, rfl, hsm, own, hb⟩
      replace R := R.all hb HB.size
      have OY := own.mono HB.size
      clear own
      replace HB := HB.trans (hb.mono HB.size)
      clear hb
      replace OY := OY.alloc (.cells #[.int .i64 U, .int .i64 V, .slice A5 ys.length c6] 33)
      replace R := R.alloc HB.size (.cells #[.int .i64 U, .int .i64 V, .slice A5 ys.length c6] 33)
      have bX := Blk.new w7 #[.int .i64 U, .int .i64 V, .slice A5 ys.length c6] 33
      replace HB := HB.alloc HB.size (.cells #[.int .i64 U, .int .i64 V, .slice A5 ys.length c6] 33)
      obtain ⟨hc, hhc⟩ : ∃ vv, hungryX U V ys = vv := ⟨_, rfl⟩
      obtain ⟨gb, hgb⟩ : ∃ vv, goodB U V ys = vv := ⟨_, rfl⟩
      have hHi : Hid (∀ (w : World) (A : Option Addr) (c : Nat), Rd w w.heap.size A ys.length c ys → Calls Try.prog 26 #[chartV U V (.slice A ys.length c)] w (Out w (.tuple #[.int .i64 hc, .bool gb]))) := Lib.hid fun w A c h => (by have := implHungriestColor_any U V A _ c _ ys w h (Nat.le_refl _); rw [hhc, hgb] at this; exact this)
      have hHs : Hid (∀ (w : World) (A : Option Addr) (c : Nat), Rd w w.heap.size A ys.length c ys → Calls Try.prog 27 #[chartV U V (.slice A ys.length c)] w (Out w (.tuple #[.int .i64 hc, .bool gb]))) := Lib.hid fun w A c h => (by have := specHungriestColor_any U V A _ c _ ys w h (Nat.le_refl _); rw [hhc, hgb] at this; exact this)
      have HSH : Hid (gb = true → ∃ a b : Int, (0 ≤ a ∧ a ≤ 64) ∧ (0 ≤ b ∧ b ≤ 64) ∧ (∀ (w : World) (A : Option Addr) (c : Nat), Rd w w.heap.size A ys.length c ys → Calls Try.prog 28 #[chartV U V (.slice A ys.length c), .int .i64 hc] w (Out w (.tuple #[.int .i64 a, .int .i64 b, .bool true]))) ∧ ∀ k : Nat, k < 6 → ∃ p q : Int, (0 ≤ p ∧ p ≤ 64) ∧ (0 ≤ q ∧ q ≤ 64) ∧ ¬ a * q < p * b ∧ ∀ (w : World) (A : Option Addr) (c : Nat), Rd w w.heap.size A ys.length c ys → Calls Try.prog 28 #[chartV U V (.slice A ys.length c), .int .i64 k] w (Out w (.tuple #[.int .i64 p, .int .i64 q, .bool true]))) := Lib.hid fun hh => by
        have := shares_calls (hgb.trans hh)
        rw [hhc] at this
        exact this
      clear hhc hgb hsm
      have ebX0 := bX.cell 0
      have ebX1 := bX.cell 1
      have ebX2 := bX.cell 2
      have zbX := bX.lt
      go_wp2_with fail
      refine (hHi.out _ _ _ OY.rd).mono ?_
      rintro e w8 ⟨rfl, hb⟩
      clear ebX0 ebX1 ebX2 zbX
      replace OY := OY.all hb
      replace bX := bX.all hb
      replace R := R.all hb HB.size
      replace HB := HB.trans (hb.mono HB.size)
      clear hb
      have ebX0 := bX.cell 0
      have ebX1 := bX.cell 1
      have ebX2 := bX.cell 2
      have zbX := bX.lt
      go_wp2_with fail
      refine (hHs.out _ _ _ OY.rd).mono ?_
      rintro e w9 ⟨rfl, hb⟩
      clear ebX0 ebX1 ebX2 zbX
      replace OY := OY.all hb
      replace bX := bX.all hb
      replace R := R.all hb HB.size
      replace HB := HB.trans (hb.mono HB.size)
      clear hb
      clear hHi hHs
      cases gb
      case false =>
        clear HSH
        clear OY bX
        go_wp2_with fail
        refine (drawColorShare_any A n c w.heap.size _ R HB.size hn).mono ?_
        rintro e w10 ⟨P, Q, A7, c7, zs, kk, rfl, hsm, hkk, own, hb⟩
        replace R := R.all hb HB.size
        have OZ := own.mono HB.size
        clear own
        replace HB := HB.trans (hb.mono HB.size)
        clear hb
        replace OZ := OZ.alloc (.cells #[.int .i64 P, .int .i64 Q, .slice A7 zs.length c7] 33)
        replace R := R.alloc HB.size (.cells #[.int .i64 P, .int .i64 Q, .slice A7 zs.length c7] 33)
        have bZ := Blk.new w10 #[.int .i64 P, .int .i64 Q, .slice A7 zs.length c7] 33
        replace HB := HB.alloc HB.size (.cells #[.int .i64 P, .int .i64 Q, .slice A7 zs.length c7] 33)
        obtain ⟨p0, hp0⟩ : ∃ vv, shareP P Q zs kk = vv := ⟨_, rfl⟩
        obtain ⟨p1, hp1⟩ : ∃ vv, shareQ P Q zs kk = vv := ⟨_, rfl⟩
        obtain ⟨p2, hp2⟩ : ∃ vv, shareB P Q zs kk = vv := ⟨_, rfl⟩
        have hZi : Hid (∀ (w : World) (A : Option Addr) (c : Nat), Rd w w.heap.size A zs.length c zs → Calls Try.prog 28 #[chartV P Q (.slice A zs.length c), .int .i64 kk] w (Out w (.tuple #[.int .i64 p0, .int .i64 p1, .bool p2]))) := Lib.hid fun w A c h => (by have := implColorShare_any P Q A _ c _ zs kk w h (Nat.le_refl _); rw [hp0, hp1, hp2] at this; exact this)
        have hZs : Hid (∀ (w : World) (A : Option Addr) (c : Nat), Rd w w.heap.size A zs.length c zs → Calls Try.prog 30 #[chartV P Q (.slice A zs.length c), .int .i64 kk] w (Out w (.tuple #[.int .i64 p0, .int .i64 p1, .bool p2]))) := Lib.hid fun w A c h => (by have := specColorShare_any P Q A _ c _ zs kk w h (Nat.le_refl _); rw [hp0, hp1, hp2] at this; exact this)
        clear hp0 hp1 hp2 hsm hkk
        have ebZ0 := bZ.cell 0
        have ebZ1 := bZ.cell 1
        have ebZ2 := bZ.cell 2
        have zbZ := bZ.lt
        go_wp2_with fail
        refine (hZi.out _ _ _ OZ.rd).mono ?_
        rintro e w11 ⟨rfl, hb⟩
        clear ebZ0 ebZ1 ebZ2 zbZ
        replace OZ := OZ.all hb
        replace bZ := bZ.all hb
        replace R := R.all hb HB.size
        replace HB := HB.trans (hb.mono HB.size)
        clear hb
        have ebZ0 := bZ.cell 0
        have ebZ1 := bZ.cell 1
        have ebZ2 := bZ.cell 2
        have zbZ := bZ.lt
        go_wp2_with fail
        refine (hZs.out _ _ _ OZ.rd).mono ?_
        rintro e w12 ⟨rfl, hb⟩
        clear ebZ0 ebZ1 ebZ2 zbZ
        replace OZ := OZ.all hb
        replace bZ := bZ.all hb
        replace R := R.all hb HB.size
        replace HB := HB.trans (hb.mono HB.size)
        clear hb
        go_wp2
        go_ret
        exact ⟨ret_bool (by simp), HB⟩
      case true =>
        obtain ⟨a, b, ha, hb6, hc1, hks⟩ := HSH.out rfl
        have HC1 := Lib.hid hc1
        have HKS := Lib.hid hks
        clear HSH hc1 hks
        have ebX0 := bX.cell 0
        have ebX1 := bX.cell 1
        have ebX2 := bX.cell 2
        have zbX := bX.lt
        go_wp2_with fail
        refine (HC1.out _ _ _ OY.rd).mono ?_
        rintro e w10 ⟨rfl, hb⟩
        clear ebX0 ebX1 ebX2 zbX
        replace OY := OY.all hb
        replace bX := bX.all hb
        replace R := R.all hb HB.size
        replace HB := HB.trans (hb.mono HB.size)
        clear hb
        clear HC1
        have hPw := bX.lt
        obtain ⟨PX, hPX⟩ : ∃ q, w7.heap.size = q := ⟨_, rfl⟩
        rw [hPX] at bX hPw ⊢
        clear hPX
        go_wp2
        go_loopw [22] (fun ii wr => ∃ k : Nat, k ≤ 6 ∧ ii = .int .i64 k ∧ Own wr w.heap.size (.slice A5 ys.length c6) ys ∧ Blk wr PX 33 #[.int .i64 U, .int .i64 V, .slice A5 ys.length c6] ∧ RdB wr w.heap.size A n c ∧ Below w.heap.size w wr) (fun ii _ => 6 - (intOf ii).toNat)
        case atStart => exact ⟨0, by omega, rfl, OY, bX, R, HB⟩
        case round =>
          clear OY bX R HB hPw
          obtain ⟨k, hk, rfl, OY, bX, R, HB⟩ := hrel
          have hPw := bX.lt
          by_cases hlt : k < 6
          · obtain ⟨p, q, hp, hq, hle, hc2⟩ := HKS.out k hlt
            have HC2 := Lib.hid hc2
            have hk0 : (0 : Int) ≤ (k : Int) := by omega
            have hk1 : (k : Int) < 6 := by omega
            have M1 := mul_bd hp.1 hp.2 hb6.1 hb6.2
            have M2 := mul_bd ha.1 ha.2 hq.1 hq.2
            have E1 : IntKind.i64.wrap (p * b) = p * b := IntWalk.i64_in _ (by omega)
            have E2 : IntKind.i64.wrap (a * q) = a * q := IntWalk.i64_in _ (by omega)
            have F1 : decide (a * q < p * b) = false := decide_eq_false (by omega)
            have F2 : ¬ a * q < p * b := by omega
            clear hc2 M1 M2 hle
            have ebX0 := bX.cell 0
            have ebX1 := bX.cell 1
            have ebX2 := bX.cell 2
            have zbX := bX.lt
            go_wp2_with fail
            refine (HC2.out _ _ _ OY.rd).mono ?_
            rintro e w12 ⟨rfl, hb⟩
            clear ebX0 ebX1 ebX2 zbX
            replace OY := OY.all hb
            replace bX := bX.all hb
            replace R := R.all hb HB.size
            replace HB := HB.trans (hb.mono HB.size)
            clear hb
            go_wp2
            go_roundw
            case rel => exact ⟨k + 1, by omega, by go_num, OY, bX, R, HB⟩
            case measure => simp [intOf]; omega
          · obtain rfl : k = 6 := by omega
            clear HKS hPw
            clear OY bX
            go_wp2_with fail
            refine (drawColorShare_any A n c w.heap.size _ R HB.size hn).mono ?_
            rintro e w12 ⟨P, Q, A7, c7, zs, kk, rfl, hsm, hkk, own, hb⟩
            replace R := R.all hb HB.size
            have OZ := own.mono HB.size
            clear own
            replace HB := HB.trans (hb.mono HB.size)
            clear hb
            replace OZ := OZ.alloc (.cells #[.int .i64 P, .int .i64 Q, .slice A7 zs.length c7] 33)
            replace R := R.alloc HB.size (.cells #[.int .i64 P, .int .i64 Q, .slice A7 zs.length c7] 33)
            have bZ := Blk.new w12 #[.int .i64 P, .int .i64 Q, .slice A7 zs.length c7] 33
            replace HB := HB.alloc HB.size (.cells #[.int .i64 P, .int .i64 Q, .slice A7 zs.length c7] 33)
            obtain ⟨p0, hp0⟩ : ∃ vv, shareP P Q zs kk = vv := ⟨_, rfl⟩
            obtain ⟨p1, hp1⟩ : ∃ vv, shareQ P Q zs kk = vv := ⟨_, rfl⟩
            obtain ⟨p2, hp2⟩ : ∃ vv, shareB P Q zs kk = vv := ⟨_, rfl⟩
            have hZi : Hid (∀ (w : World) (A : Option Addr) (c : Nat), Rd w w.heap.size A zs.length c zs → Calls Try.prog 28 #[chartV P Q (.slice A zs.length c), .int .i64 kk] w (Out w (.tuple #[.int .i64 p0, .int .i64 p1, .bool p2]))) := Lib.hid fun w A c h => (by have := implColorShare_any P Q A _ c _ zs kk w h (Nat.le_refl _); rw [hp0, hp1, hp2] at this; exact this)
            have hZs : Hid (∀ (w : World) (A : Option Addr) (c : Nat), Rd w w.heap.size A zs.length c zs → Calls Try.prog 30 #[chartV P Q (.slice A zs.length c), .int .i64 kk] w (Out w (.tuple #[.int .i64 p0, .int .i64 p1, .bool p2]))) := Lib.hid fun w A c h => (by have := specColorShare_any P Q A _ c _ zs kk w h (Nat.le_refl _); rw [hp0, hp1, hp2] at this; exact this)
            clear hp0 hp1 hp2 hsm hkk
            have ebZ0 := bZ.cell 0
            have ebZ1 := bZ.cell 1
            have ebZ2 := bZ.cell 2
            have zbZ := bZ.lt
            go_wp2_with fail
            refine (hZi.out _ _ _ OZ.rd).mono ?_
            rintro e w13 ⟨rfl, hb⟩
            clear ebZ0 ebZ1 ebZ2 zbZ
            replace OZ := OZ.all hb
            replace bZ := bZ.all hb
            replace R := R.all hb HB.size
            replace HB := HB.trans (hb.mono HB.size)
            clear hb
            have ebZ0 := bZ.cell 0
            have ebZ1 := bZ.cell 1
            have ebZ2 := bZ.cell 2
            have zbZ := bZ.lt
            go_wp2_with fail
            refine (hZs.out _ _ _ OZ.rd).mono ?_
            rintro e w14 ⟨rfl, hb⟩
            clear ebZ0 ebZ1 ebZ2 zbZ
            replace OZ := OZ.all hb
            replace bZ := bZ.all hb
            replace R := R.all hb HB.size
            replace HB := HB.trans (hb.mono HB.size)
            clear hb
            go_wp2
            go_ret
            exact ⟨ret_bool (by simp), HB⟩
end Go.Proofs.Ytndoianocmekmaa
