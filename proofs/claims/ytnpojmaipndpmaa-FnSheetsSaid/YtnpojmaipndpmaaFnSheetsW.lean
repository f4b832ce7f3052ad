/- The walk of FnSheets. No condition. -/
import Derived.Test.YtnpojmaipndpmaaDraws14s
import Derived.Test.YtnpojmaipndpmaaWords14
import Derived.Test.YtnpojmaipndpmaaSheetsFn
import Derived.Test.YtnpojmaipndpmaaCarefulS
import Derived.Deep.CutRange
import Derived.Deep.CutBlock
namespace Go.Proofs.Ytnpojmaipndpmaa
open Go.RowKit

set_option maxRecDepth 100000 in
set_option maxHeartbeats 16000000 in
theorem fnSheets_walk (w : World) (A : Option Addr) (n c : Nat) (R : RdB w w.heap.size A n c) : Calls Try.prog 3 #[.slice A n c] w fun e w' => e = .returned (.bool true) ∧ Below w.heap.size w w' := by
  have hcap := R.cap
  have hmax := R.max
  unfold maxLen at hmax
  have HB := Below.refl w.heap.size w
  by_cases hn : n ≤ 65536
  rotate_left
  · go_enter Try.func3, Try.ntmps3
    go_wp2_with fail
    refine (rBig_eq A n c _ (by omega) true (by simp; omega)).mono ?_
    rintro e w' ⟨rfl, rfl⟩
    go_wp2
    go_ret
    exact ⟨rfl, HB⟩
  go_enter Try.func3, Try.ntmps3
  go_wp2_with fail
  refine (rBig_eq A n c _ (by omega) false (by simp; omega)).mono ?_
  rintro e w' ⟨rfl, rfl⟩
  go_wp2_with fail
  refine (drawCarefulWeavers_any A n c w.heap.size _ R HB.size hn).mono ?_
  rintro e w1 ⟨A2, c2, xs, rfl, hxl, own, hb⟩
  replace R := R.all hb HB.size
  have OX := own.mono HB.size
  clear own
  replace HB := HB.trans (hb.mono HB.size)
  clear hb
  obtain ⟨L, hL⟩ : ∃ z, (careful14 xs).1 = z := ⟨_, rfl⟩
  obtain ⟨ok, hok⟩ : ∃ z, (careful14 xs).2 = z := ⟨_, rfl⟩
  have hCi : Hid (∀ (w : World) (A : Option Addr) (c : Nat), RdF workSheetF w w.heap.size A xs.length c xs → Calls Try.prog 6 #[.slice A xs.length c] w (OutInts w L ok)) := Lib.hid fun w A c h => (by have := implCarefulWeavers_any A _ c _ xs w h (Nat.le_refl _); rw [hL, hok] at this; exact this)
  have hCs : Hid (∀ (w : World) (A : Option Addr) (c : Nat), RdF workSheetF w w.heap.size A xs.length c xs → Calls Try.prog 7 #[.slice A xs.length c] w (OutInts w L ok)) := Lib.hid fun w A c h => (by have := specCarefulWeavers_any A _ c _ xs w h (Nat.le_refl _); rw [hL, hok] at this; exact this)
  have HT : Hid (ok = true → ∀ (k : Nat) (a : WorkSheetR), xs[k]? = some a → a.f0 ∈ L) := Lib.hid fun hh k a ha => hL ▸ careful_has (hok.trans hh) ha
  have HSB : Hid (sheetsB xs = ok) := Lib.hid ((careful_ok xs).symm.trans hok)
  clear hL hok
  have hgg : (ok != ok) = false := by simp
  go_wp2_with fail
  refine (hCi.out _ _ _ OX.rd).mono ?_
  rintro e w2 ⟨A4, c4, rfl, own, hb⟩
  replace OX := OX.all hb
  replace R := R.all hb HB.size
  have OL := own.mono HB.size
  clear own
  replace HB := HB.trans (hb.mono HB.size)
  clear hb
  go_wp2_with fail
  refine (hCs.out _ _ _ OX.rd).mono ?_
  rintro e w3 ⟨A5, c5, rfl, own, hb⟩
  replace OX := OX.all hb
  replace OL := OL.all hb
  replace R := R.all hb HB.size
  have OM := own.mono HB.size
  clear own
  replace HB := HB.trans (hb.mono HB.size)
  clear hb
  clear hCi hCs
  go_wp2_with fail
  refine (rInts_low _ _ _ _ _ _ _ _ L _ OL.rd OM.rd).mono ?_
  rintro e w4 ⟨rfl, hb⟩
  replace OX := OX.all hb
  replace OL := OL.all hb
  replace OM := OM.all hb
  replace R := R.all hb HB.size
  replace HB := HB.trans (hb.mono HB.size)
  clear hb
  clear OM
  go_wp2_with fail
  refine (implAreSheets_eq _ _ _ _ xs _ ok OX.rd (Nat.le_refl _) HSB.out).mono ?_
  rintro e w5 ⟨rfl, hb⟩
  replace OX := OX.all hb
  replace OL := OL.all hb
  replace R := R.all hb HB.size
  replace HB := HB.trans (hb.mono HB.size)
  clear hb
  clear HSB
  go_upto_block 0 with fail
  go_cut [8] from 54 to 70 (fun _ wx => RdB wx w.heap.size A n c ∧ Below w.heap.size w wx)
  case first =>
    clear hgg
    cases ok
    case false =>
      go_wp2
      go_loopw [8] (fun s8 wr => s8 = .int .i64 0 ∧ wr = w5) (fun _ _ => 0)
      case atStart => exact ⟨rfl, rfl⟩
      case round =>
        obtain ⟨rfl, hw⟩ := hrel
        subst hw
        by_cases hus : (0 : Int) < (xs.length : Int)
        · go_wp2
          go_meet
          exact ⟨R, HB⟩
        · go_wp2
          go_meet
          exact ⟨R, HB⟩
    case true =>
      have H1 := Lib.hid (HT.out rfl)
      clear HT
      go_wp2
      go_loopw [8] (fun ii wr => ∃ k : Nat, k ≤ xs.length ∧ ii = .int .i64 k ∧ wr = w5) (fun ii _ => xs.length - (intOf ii).toNat)
      case atStart => exact ⟨0, Nat.zero_le _, rfl, rfl⟩
      case round =>
        obtain ⟨k, hk, rfl, hw⟩ := hrel
        subst hw
        have hki : (0 : Int) ≤ (k : Int) := by omega
        by_cases hlt : k < xs.length
        · have hrv := OX.rd
          have hkn : (k : Int) < (xs.length : Int) := by omega
          obtain ⟨b, off, a, rfl, _, _, HX, hc0, _, _, _, _⟩ := WorkSheetR_at (F := workSheetF) rfl (fun _ => rfl) (fun _ => rfl) hrv hlt
          have HH := Lib.hid (decide_eq_true (H1.out k a HX.out))
          have hra := OL.rd
          go_wp2_with fail
          refine (rHas_eq _ _ _ _ L a.f0 _ true hra HH).mono ?_
          rintro e w' ⟨rfl, rfl⟩
          go_wp2
          go_roundw
          case rel => exact ⟨k + 1, by omega, by go_num, by first | rfl | trivial⟩
          case measure => simp [intOf]; omega
        · have hkf : ¬ (k : Int) < (xs.length : Int) := by omega
          go_wp2
          go_meet
          exact ⟨R, HB⟩
  case rest =>
    clear HT hgg
    clear OX OL
    clear R HB hxl
    obtain ⟨R, HB⟩ := hcut
    go_wp2_with fail
    refine (drawBestDayOf_any A n c w.heap.size _ R HB.size hn).mono ?_
    rintro e w6 ⟨A6, c6, ls, v, rfl, hll, hv, own, hb⟩
    replace R := R.all hb HB.size
    have OY := own.mono HB.size
    clear own
    replace HB := HB.trans (hb.mono HB.size)
    clear hb
    obtain ⟨d, hd⟩ : ∃ z, (bestDay14 ls v).1 = z := ⟨_, rfl⟩
    obtain ⟨fine, hfine⟩ : ∃ z, (bestDay14 ls v).2 = z := ⟨_, rfl⟩
    have hBi : Hid (∀ (w : World) (A : Option Addr) (c : Nat), RdF workSheetF w w.heap.size A ls.length c ls → Calls Try.prog 12 #[.slice A ls.length c, .int .i64 v] w (Out w (.tuple #[.int .i64 d, .bool fine]))) := Lib.hid fun w A c h => (by have := implBestDayOf_any A _ c _ ls v w h (Nat.le_refl _); rw [hd, hfine] at this; exact this)
    have hBs : Hid (∀ (w : World) (A : Option Addr) (c : Nat), RdF workSheetF w w.heap.size A ls.length c ls → Calls Try.prog 13 #[.slice A ls.length c, .int .i64 v] w (Out w (.tuple #[.int .i64 d, .bool fine]))) := Lib.hid fun w A c h => (by have := specBestDayOf_any A _ c _ ls v w h (Nat.le_refl _); rw [hd, hfine] at this; exact this)
    obtain ⟨r, HR⟩ : ∃ r : Int, Hid (fine = true → (0 ≤ r ∧ r ≤ 12000) ∧ (∀ (j : Nat) (a : WorkSheetR), ls[j]? = some a → (0 ≤ a.f2 ∧ a.f2 ≤ 12000) ∧ (0 ≤ a.f3 ∧ a.f3 ≤ a.f2)) ∧ (∀ (j : Nat) (a : WorkSheetR), ls[j]? = some a → a.f0 = v → a.f2 - a.f3 ≤ r) ∧ (∀ (j : Nat) (a : WorkSheetR), ls[j]? = some a → a.f0 = v → a.f1 = d → a.f2 - a.f3 = r) ∧ (∃ (j : Nat) (a : WorkSheetR), ls[j]? = some a ∧ a.f0 = v ∧ a.f1 = d)) := by
      by_cases hh : fine = true
      · obtain ⟨r, hr⟩ := best_facts hd (hfine.trans hh)
        exact ⟨r, Lib.hid (fun _ => hr)⟩
      · exact ⟨0, Lib.hid (fun h => absurd h hh)⟩
    clear hd hfine hv
    have hg1 : (d != d) = false := by simp
    have hg2 : (fine != fine) = false := by simp
    go_wp2_with fail
    refine (hBi.out _ _ _ OY.rd).mono ?_
    rintro e w7 ⟨rfl, hb⟩
    replace OY := OY.all hb
    replace R := R.all hb HB.size
    replace HB := HB.trans (hb.mono HB.size)
    clear hb
    go_wp2_with fail
    refine (hBs.out _ _ _ OY.rd).mono ?_
    rintro e w8 ⟨rfl, hb⟩
    replace OY := OY.all hb
    replace R := R.all hb HB.size
    replace HB := HB.trans (hb.mono HB.size)
    clear hb
    clear hBi hBs
    go_upto_block 2 with fail
    go_cut [15, 16] from 96 to 131 (fun s15 _ wx => ∃ q : Int, s15 = .int .i64 q ∧ Hid (fine = true → q = r) ∧ OwnF workSheetF wx w.heap.size (.slice A6 ls.length c6) ls ∧ RdB wx w.heap.size A n c ∧ Below w.heap.size w wx)
    case first =>
      clear hg1 hg2
      cases fine
      case false =>
        go_wp2
        go_loopw [16, 15] (fun s16 s15 wr => s16 = .int .i64 0 ∧ s15 = .int .i64 (-1) ∧ wr = w8) (fun _ _ _ => 0)
        case atStart => exact ⟨rfl, rfl, rfl⟩
        case round =>
          obtain ⟨rfl, rfl, hw⟩ := hrel
          subst hw
          by_cases hus : (0 : Int) < (ls.length : Int)
          · go_wp2
            go_meet
            exact ⟨-1, rfl, Lib.hid (fun h => by cases h), OY, R, HB⟩
          · go_wp2
            go_meet
            exact ⟨-1, rfl, Lib.hid (fun h => by cases h), OY, R, HB⟩
      case true =>
        obtain ⟨hr0, g1, g2, g3, g4⟩ := HR.out rfl
        have G1 := Lib.hid g1
        have G3 := Lib.hid g3
        have G4 := Lib.hid g4
        clear HR g1 g2 g3 g4
        have HB0 := Lib.hid HB
        clear HB
        go_wp2
        go_loopw [16, 15] (fun ii s15 wr => ∃ (k : Nat) (q : Int), k ≤ ls.length ∧ ii = .int .i64 k ∧ s15 = .int .i64 q ∧ Hid (q = r ∨ ∀ (j : Nat) (a : WorkSheetR), j < k → ls[j]? = some a → ¬ (a.f0 = v ∧ a.f1 = d)) ∧ OwnF workSheetF wr w.heap.size (.slice A6 ls.length c6) ls ∧ RdB wr w.heap.size A n c ∧ Hid (Below w.heap.size w wr)) (fun ii _ _ => ls.length - (intOf ii).toNat)
        case atStart => exact ⟨0, -1, Nat.zero_le _, rfl, rfl, Lib.hid (.inr fun j a h => by omega), OY, R, HB0⟩
        case round =>
          clear OY R HB0
          obtain ⟨k, q, hk, rfl, rfl, HQ, OY, R, HB0⟩ := hrel
          have hki : (0 : Int) ≤ (k : Int) := by omega
          by_cases hlt : k < ls.length
          · have hrv := OY.rd
            have hkn : (k : Int) < (ls.length : Int) := by omega
            obtain ⟨b, off, a, rfl, _, _, HX, hc0, hc1, hc2, hc3, hc4⟩ := WorkSheetR_at (F := workSheetF) rfl (fun _ => rfl) (fun _ => rfl) hrv hlt
            obtain ⟨⟨k0, k1⟩, x0, x1⟩ := G1.out k a HX.out
            have keep : ¬ (a.f0 = v ∧ a.f1 = d) → Hid (q = r ∨ ∀ (j : Nat) (a : WorkSheetR), j < k + 1 → ls[j]? = some a → ¬ (a.f0 = v ∧ a.f1 = d)) := fun hn => Lib.hid (HQ.out.elim .inl fun h => .inr fun j z hj hz => by
              rcases Nat.lt_or_ge j k with h1 | h1
              · exact h j z h1 hz
              · obtain rfl : j = k := by omega
                rw [HX.out] at hz
                cases hz
                exact hn)
            by_cases h1 : a.f0 = v
            rotate_left
            · have HN := keep (fun hh => h1 hh.1)
              have h1' : (a.f0 == v) = false := by simp [h1]
              clear keep h1
              go_wp2
              go_roundw
              case rel => exact ⟨k + 1, q, by omega, by go_num, rfl, HN, OY, R, HB0⟩
              case measure => simp [intOf]; omega
            have h1' : (a.f0 == v) = true := by simp [h1]
            by_cases h2 : a.f1 = d
            rotate_left
            · have HN := keep (fun hh => h2 hh.2)
              have h2' : (a.f1 == d) = false := by simp [h2]
              clear keep h1 h2
              go_wp2
              go_roundw
              case rel => exact ⟨k + 1, q, by omega, by go_num, rfl, HN, OY, R, HB0⟩
              case measure => simp [intOf]; omega
            have h2' : (a.f1 == d) = true := by simp [h2]
            obtain ⟨u, hu⟩ : ∃ u, a.f2 - a.f3 = u := ⟨_, rfl⟩
            have HU := Lib.hid (show u = r from hu.symm.trans (G3.out k a HX.out h1 h2))
            have gs : IntKind.i64.wrap (a.f2 - a.f3) = a.f2 - a.f3 := IntWalk.i64_in _ (by omega)
            rw [hu] at gs
            have HUU := Lib.hid hu
            clear keep h1 h2
            go_wp2
            go_quiet (fail)
            have OY2 := OY.drewN nq
            have R2 := R.all (low_drewN wr nq) HB0.out.size
            have HB2 := Lib.hid (belowN HB0.out nq)
            go_wp2
            go_roundw
            case rel => exact ⟨k + 1, u, by omega, by go_num, by first | rfl | trivial, Lib.hid (.inl HU.out), OY2, R2, HB2⟩
            case measure => simp [intOf]; omega
          · have hkf : ¬ (k : Int) < (ls.length : Int) := by omega
            have HE := Lib.hid (show q = r from HQ.out.elim id fun h => by
              obtain ⟨j, a, ha, h1, h2⟩ := G4.out
              exact absurd ⟨h1, h2⟩ (h j a (by have := (List.getElem?_eq_some_iff.1 ha).1; omega) ha))
            clear HQ G1 G3 G4
            go_wp2
            go_meet
            exact ⟨q, rfl, Lib.hid (fun _ => HE.out), OY, R, HB0.out⟩
    case rest =>
      clear hg1 hg2 OY R HB
      obtain ⟨q, rfl, HQ, OY, R, HB⟩ := hcut
      go_upto_block 4 with fail
      go_cut [17] from 132 to 162 (fun _ wx => RdB wx w.heap.size A n c ∧ Below w.heap.size w wx)
      case first =>
        cases fine
        case false =>
          go_wp2
          go_loopw [17] (fun s17 wr => s17 = .int .i64 0 ∧ wr = wc) (fun _ _ => 0)
          case atStart => exact ⟨rfl, rfl⟩
          case round =>
            obtain ⟨rfl, hw⟩ := hrel
            subst hw
            by_cases hus : (0 : Int) < (ls.length : Int)
            · go_wp2
              go_meet
              exact ⟨R, HB⟩
            · go_wp2
              go_meet
              exact ⟨R, HB⟩
        case true =>
          obtain ⟨hr0, g1, g2, g3, g4⟩ := HR.out rfl
          have hqr := HQ.out rfl
          subst hqr
          have G1 := Lib.hid g1
          have G2 := Lib.hid g2
          clear HR HQ g1 g2 g3 g4
          have HB0 := Lib.hid HB
          clear HB
          go_wp2
          go_loopw [17] (fun ii wr => ∃ k : Nat, k ≤ ls.length ∧ ii = .int .i64 k ∧ OwnF workSheetF wr w.heap.size (.slice A6 ls.length c6) ls ∧ RdB wr w.heap.size A n c ∧ Hid (Below w.heap.size w wr)) (fun ii _ => ls.length - (intOf ii).toNat)
          case atStart => exact ⟨0, Nat.zero_le _, rfl, OY, R, HB0⟩
          case round =>
            clear OY R HB0
            obtain ⟨k, hk, rfl, OY, R, HB0⟩ := hrel
            have hki : (0 : Int) ≤ (k : Int) := by omega
            by_cases hlt : k < ls.length
            · have hrv := OY.rd
              have hkn : (k : Int) < (ls.length : Int) := by omega
              obtain ⟨b, off, a, rfl, _, _, HX, hc0, hc1, hc2, hc3, hc4⟩ := WorkSheetR_at (F := workSheetF) rfl (fun _ => rfl) (fun _ => rfl) hrv hlt
              obtain ⟨⟨k0, k1⟩, x0, x1⟩ := G1.out k a HX.out
              by_cases h1 : a.f0 = v
              · have h5 := G2.out k a HX.out h1
                have h1' : (a.f0 == v) = true := by simp [h1]
                obtain ⟨u, hu⟩ : ∃ u, a.f2 - a.f3 = u := ⟨_, rfl⟩
                have gs : IntKind.i64.wrap (a.f2 - a.f3) = a.f2 - a.f3 := IntWalk.i64_in _ (by omega)
                rw [hu] at gs h5
                have hdd : decide (q < u) = false := decide_eq_false (by omega)
                have HUU := Lib.hid hu
                clear h1
                go_wp2
                go_quiet (fail)
                have OY2 := OY.drewN nq
                have R2 := R.all (low_drewN wr nq) HB0.out.size
                have HB2 := Lib.hid (belowN HB0.out nq)
                go_wp2
                go_roundw
                case rel => exact ⟨k + 1, by omega, by go_num, OY2, R2, HB2⟩
                case measure => simp [intOf]; omega
              · have h1' : (a.f0 == v) = false := by simp [h1]
                clear h1
                go_wp2
                go_quiet (fail)
                have OY2 := OY.drewN nq
                have R2 := R.all (low_drewN wr nq) HB0.out.size
                have HB2 := Lib.hid (belowN HB0.out nq)
                go_wp2
                go_roundw
                case rel => exact ⟨k + 1, by omega, by go_num, OY2, R2, HB2⟩
                case measure => simp [intOf]; omega
            · have hkf : ¬ (k : Int) < (ls.length : Int) := by omega
              clear G1 G2
              go_wp2
              go_meet
              exact ⟨R, HB0.out⟩
      case rest =>
        clear HQ HR
        clear OY
        clear R HB
        obtain ⟨R, HB⟩ := hcut
        go_wp2_with fail
        refine (drawMissedBonus_any A n c w.heap.size _ R HB.size hn).mono ?_
        rintro e w9 ⟨A8, c8, us, rfl, hul, own, hb⟩
        replace R := R.all hb HB.size
        have OU := own.mono HB.size
        clear own
        replace HB := HB.trans (hb.mono HB.size)
        clear hb
        obtain ⟨M, hM⟩ : ∃ z, (missed14 us).1 = z := ⟨_, rfl⟩
        obtain ⟨told, htold⟩ : ∃ z, (missed14 us).2 = z := ⟨_, rfl⟩
        have hMi : Hid (∀ (w : World) (A : Option Addr) (c : Nat), RdF workSheetF w w.heap.size A us.length c us → Calls Try.prog 15 #[.slice A us.length c] w (OutInts w M told)) := Lib.hid fun w A c h => (by have := implMissedBonus_any A _ c _ us w h (Nat.le_refl _); rw [hM, htold] at this; exact this)
        have hMs : Hid (∀ (w : World) (A : Option Addr) (c : Nat), RdF workSheetF w w.heap.size A us.length c us → Calls Try.prog 16 #[.slice A us.length c] w (OutInts w M told)) := Lib.hid fun w A c h => (by have := specMissedBonus_any A _ c _ us w h (Nat.le_refl _); rw [hM, htold] at this; exact this)
        have HM : Hid (∀ (j : Nat) (y : Int), M[j]? = some y → ∃ (q : Nat) (a : WorkSheetR), y = (q : Int) ∧ us[q]? = some a ∧ (8000 ≤ a.f2 ∧ a.f2 ≤ 12000) ∧ (0 ≤ a.f3 ∧ a.f3 ≤ a.f2) ∧ a.f2 - a.f3 < 8000) := Lib.hid fun j y h => missed_facts (by rw [hM]; exact h)
        have hml : M.length ≤ 100000 := hM ▸ missed14_len us
        clear hM htold
        have hgg : (told != told) = false := by simp
        go_wp2_with fail
        refine (hMi.out _ _ _ OU.rd).mono ?_
        rintro e w10 ⟨A9, c9, rfl, own, hb⟩
        replace OU := OU.all hb
        replace R := R.all hb HB.size
        have OV := own.mono HB.size
        clear own
        replace HB := HB.trans (hb.mono HB.size)
        clear hb
        go_wp2_with fail
        refine (hMs.out _ _ _ OU.rd).mono ?_
        rintro e w11 ⟨A10, c10, rfl, own, hb⟩
        replace OU := OU.all hb
        replace OV := OV.all hb
        replace R := R.all hb HB.size
        have OW := own.mono HB.size
        clear own
        replace HB := HB.trans (hb.mono HB.size)
        clear hb
        clear hMi hMs
        go_wp2_with fail
        refine (rInts_low _ _ _ _ _ _ _ _ M _ OV.rd OW.rd).mono ?_
        rintro e w12 ⟨rfl, hb⟩
        replace OU := OU.all hb
        replace OV := OV.all hb
        replace OW := OW.all hb
        replace R := R.all hb HB.size
        replace HB := HB.trans (hb.mono HB.size)
        clear hb
        clear OW
        have HB0 := Lib.hid HB
        clear HB R
        go_wp2
        go_loopw [23] (fun ii wr => ∃ k : Nat, k ≤ M.length ∧ ii = .int .i64 k ∧ OwnF workSheetF wr w.heap.size (.slice A8 us.length c8) us ∧ Own wr w.heap.size (.slice A9 M.length c9) M ∧ Hid (Below w.heap.size w wr)) (fun ii _ => M.length - (intOf ii).toNat)
        case atStart => exact ⟨0, Nat.zero_le _, rfl, OU, OV, HB0⟩
        case round =>
          clear OU OV HB0
          obtain ⟨k, hk, rfl, OU, OV, HB0⟩ := hrel
          have hki : (0 : Int) ≤ (k : Int) := by omega
          have hzz := HB0.out.size
          by_cases hlt : k < M.length
          · have hkn : (k : Int) < (M.length : Int) := by omega
            obtain ⟨bm, om, y, hA9, hy, hgy⟩ := rd_get OV.rd hlt
            obtain ⟨q, a, rfl, hx, ⟨k0, k1⟩, ⟨x0, x1⟩, h8⟩ := HM.out k y hgy
            have hql : q < us.length := (List.getElem?_eq_some_iff.1 hx).1
            have hrv := OU.rd
            obtain ⟨b, off, a', hA8, _, _, HX, hc0, hc1, hc2, hc3, hc4⟩ := WorkSheetR_at (F := workSheetF) rfl (fun _ => rfl) (fun _ => rfl) hrv hql
            obtain rfl : a' = a := Option.some.inj (HX.out.symm.trans hx)
            subst hA9 hA8
            have hq0 : (0 : Int) ≤ (q : Int) := by omega
            have hqn : (q : Int) < (us.length : Int) := by omega
            have x7 := Blk.new wr #[.int .i64 a'.f0, .int .i64 a'.f1, .int .i64 a'.f2, .int .i64 a'.f3, .int .i64 a'.f4] 33
            have OU7 := OU.alloc (.cells #[.int .i64 a'.f0, .int .i64 a'.f1, .int .i64 a'.f2, .int .i64 a'.f3, .int .i64 a'.f4] 33)
            have OV7 := OV.alloc (.cells #[.int .i64 a'.f0, .int .i64 a'.f1, .int .i64 a'.f2, .int .i64 a'.f3, .int .i64 a'.f4] 33)
            have HB7 := Lib.hid (HB0.out.alloc hzz (.cells #[.int .i64 a'.f0, .int .i64 a'.f1, .int .i64 a'.f2, .int .i64 a'.f3, .int .i64 a'.f4] 33))
            clear hx hgy HX
            go_upto_region 38 with fail
            clear hc0 hc1 hc2 hc3 hc4 hy
            generalize wr.alloc (.cells #[.int .i64 a'.f0, .int .i64 a'.f1, .int .i64 a'.f2, .int .i64 a'.f3, .int .i64 a'.f4] 33) = W7 at *
            generalize wr.heap.size = P at *
            have e70 := x7.cell 0
            have e71 := x7.cell 1
            have e72 := x7.cell 2
            have e73 := x7.cell 3
            have e74 := x7.cell 4
            have gs : IntKind.i64.wrap (a'.f2 - a'.f3) = a'.f2 - a'.f3 := IntWalk.i64_in _ (by omega)
            have hd1 : ¬ a'.f2 < 8000 := by omega
            have hd2 : ¬ 8000 ≤ a'.f2 - a'.f3 := by omega
            go_wp2
            go_roundw
            case rel => exact ⟨k + 1, by omega, by go_num, OU7, OV7, HB7⟩
            case measure => simp [intOf]; omega
          · have hkf : ¬ (k : Int) < (M.length : Int) := by omega
            go_wp2
            go_ret
            exact ⟨rfl, HB0.out⟩
end Go.Proofs.Ytnpojmaipndpmaa
