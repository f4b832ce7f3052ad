/- The walk of FnWeavers. No condition. -/
import Derived.Test.YtanfblpibomfaaaDraws11c
import Derived.Test.YtanfblpibomfaaaWeaverFn
import Derived.Test.YtanfblpibomfaaaSeat11
import Derived.Test.YtanfblpibomfaaaSeat11S
import Derived.Test.YtanfblpibomfaaaUsed11S
import Derived.Test.YtanfblpibomfaaaFast11S
namespace Go.Proofs.Ytanfblpibomfaaa
open Go.RowKit

set_option maxRecDepth 100000 in
set_option maxHeartbeats 16000000 in
theorem fnWeavers_walk (w : World) (A : Option Addr) (n c : Nat) (R : RdB w w.heap.size A n c) : Calls Try.prog 3 #[.slice A n c] w fun e w' => e = .returned (.bool true) ∧ Below w.heap.size w w' := by
  have hcap := R.cap
  have hmax := R.max
  unfold maxLen at hmax
  have HB := Below.refl w.heap.size w
  by_cases hn : n ≤ 65536
  rotate_left
  · go_enter Try.func3, Try.ntmps3
    go_wp2_with fail
    refine (rBig_eq A n c _ (by omega) true (by simp; omega)).mono ?_
    rintro e w' ⟨rfl, rfl⟩
    go_wp2
    go_ret
    exact ⟨rfl, HB⟩
  go_enter Try.func3, Try.ntmps3
  go_wp2_with fail
  refine (rBig_eq A n c _ (by omega) false (by simp; omega)).mono ?_
  rintro e w' ⟨rfl, rfl⟩
  go_wp2_with fail
  refine (drawDaysForKnots_any A n c w.heap.size _ R HB.size hn).mono ?_
  rintro e w1 ⟨A2, c2, xs, lo, kn, rfl, hxl, hlo, hkn, own, hb⟩
  replace R := R.all hb HB.size
  have OX := own.mono HB.size
  clear own
  replace HB := HB.trans (hb.mono HB.size)
  clear hb
  obtain ⟨d, hd⟩ : ∃ z, (days11 xs lo kn).1 = z := ⟨_, rfl⟩
  obtain ⟨ok, hok⟩ : ∃ z, (days11 xs lo kn).2 = z := ⟨_, rfl⟩
  have hDi : Hid (∀ (w : World) (A : Option Addr) (c : Nat), RdF weaverF w w.heap.size A xs.length c xs → Calls Try.prog 7 #[.slice A xs.length c, .int .i64 lo, .int .i64 kn] w (Out w (.tuple #[.int .i64 d, .bool ok]))) := Lib.hid fun w A c h => (by have := implDaysForKnots_any A _ c _ xs lo kn w h (Nat.le_refl _); rw [hd, hok] at this; exact this)
  have hDs : Hid (∀ (w : World) (A : Option Addr) (c : Nat), RdF weaverF w w.heap.size A xs.length c xs → Calls Try.prog 8 #[.slice A xs.length c, .int .i64 lo, .int .i64 kn] w (Out w (.tuple #[.int .i64 d, .bool ok]))) := Lib.hid fun w A c h => (by have := specDaysForKnots_any A _ c _ xs lo kn w h (Nat.le_refl _); rw [hd, hok] at this; exact this)
  have HDY : Hid (ok = true → ∃ N : Int, (∀ (w : World) (A : Option Addr) (c : Nat), RdF weaverF w w.heap.size A xs.length c xs → Calls Try.prog 9 #[.slice A xs.length c, .int .i64 lo] w (Out w (.tuple #[.int .i64 N, .bool true]))) ∧ (0 ≤ N ∧ N ≤ 96000) ∧ (0 ≤ d ∧ d ≤ 20000000) ∧ (0 ≤ kn ∧ kn ≤ 10000000) ∧ kn ≤ N * d ∧ (0 < d → N * (d - 1) < kn)) := Lib.hid fun ho => by
    obtain ⟨N, h1, h2, h3, h4, h5, h6⟩ := days_enough (xs := xs) (l := lo) (k := kn) (d := d) (by rw [← hd, ← ho, ← hok])
    exact ⟨N, fun w A c h => implKnots_eq A _ c _ xs lo w N true h (Nat.le_refl _) h1, h2, h3, h4, h5, h6⟩
  clear hd hok hxl hkn
  go_wp2_with fail
  refine (hDi.out _ _ _ OX.rd).mono ?_
  rintro e w2 ⟨rfl, hb⟩
  replace OX := OX.all hb
  replace R := R.all hb HB.size
  replace HB := HB.trans (hb.mono HB.size)
  clear hb
  go_wp2_with fail
  refine (hDs.out _ _ _ OX.rd).mono ?_
  rintro e w3 ⟨rfl, hb⟩
  replace OX := OX.all hb
  replace R := R.all hb HB.size
  replace HB := HB.trans (hb.mono HB.size)
  clear hb
  clear hDi hDs
  cases ok
  case false =>
    clear HDY
    go_wp2_with fail
    refine (drawSeatWeaver_any A n c w.heap.size _ R HB.size hn).mono ?_
    rintro e w4 ⟨A3, c3, ls, id, at_, rfl, hll, hid, hat, own, hb⟩
    replace OX := OX.all hb
    replace R := R.all hb HB.size
    have OL := own.mono HB.size
    clear own
    replace HB := HB.trans (hb.mono HB.size)
    clear hb
    clear OX
    obtain ⟨sz, hsz⟩ : ∃ z, (seat11 ls id at_).1 = z := ⟨_, rfl⟩
    obtain ⟨sb, hsb⟩ : ∃ z, (seat11 ls id at_).2 = z := ⟨_, rfl⟩
    have hSi : Hid (∀ (w : World) (A : Option Addr) (c : Nat), RdF weaverF w w.heap.size A ls.length c ls → Calls Try.prog 11 #[.slice A ls.length c, .int .i64 id, .int .i64 at_] w (OutF weaverF w sz sb)) := Lib.hid fun w A c h => (by have := implSeatWeaver_any A _ c _ ls id at_ w h (Nat.le_refl _) hat; rw [hsz, hsb] at this; exact this)
    have hSs : Hid (∀ (w : World) (A : Option Addr) (c : Nat), RdF weaverF w w.heap.size A ls.length c ls → Calls Try.prog 12 #[.slice A ls.length c, .int .i64 id, .int .i64 at_] w (OutF weaverF w sz sb)) := Lib.hid fun w A c h => (by have := specSeatWeaver_any A _ c _ ls id at_ w h (Nat.le_refl _) hat; rw [hsz, hsb] at this; exact this)
    have HSV : Hid (sb = true → weaversB sz = true) := Lib.hid fun ho => seat_valid (xs := ls) (id := id) (loom := at_) (by rw [← hsz, ← ho, ← hsb])
    clear hsz hsb hll hid
    go_wp2_with fail
    refine (hSi.out _ _ _ OL.rd).mono ?_
    rintro e w5 ⟨A6, c6, rfl, own, hb⟩
    replace OL := OL.all hb
    replace R := R.all hb HB.size
    have OT := own.mono HB.size
    clear own
    replace HB := HB.trans (hb.mono HB.size)
    clear hb
    go_wp2_with fail
    refine (hSs.out _ _ _ OL.rd).mono ?_
    rintro e w6 ⟨A7, c7, rfl, own, hb⟩
    replace OL := OL.all hb
    replace OT := OT.all hb
    replace R := R.all hb HB.size
    have OU := own.mono HB.size
    clear own
    replace HB := HB.trans (hb.mono HB.size)
    clear hb
    clear hSi hSs hat
    clear OL
    go_wp2_with fail
    refine (rWeavers_same _ _ _ _ _ _ _ _ sz _ OT.rd OU.rd).mono ?_
    rintro e w7 ⟨rfl, hb⟩
    replace OT := OT.all hb
    replace OU := OU.all hb
    replace R := R.all hb HB.size
    replace HB := HB.trans (hb.mono HB.size)
    clear hb
    clear OU
    cases sb
    case false =>
      clear HSV
      clear OT
      go_wp2_with fail
      refine (drawLoomsUsed_any A n c w.heap.size _ R HB.size hn).mono ?_
      rintro e w8 ⟨A4, c4, us, rfl, hul, own, hb⟩
      replace R := R.all hb HB.size
      have OV := own.mono HB.size
      clear own
      replace HB := HB.trans (hb.mono HB.size)
      clear hb
      obtain ⟨lu, hlu⟩ : ∃ z, (used11 us).1 = z := ⟨_, rfl⟩
      obtain ⟨se, hse⟩ : ∃ z, (used11 us).2.1 = z := ⟨_, rfl⟩
      obtain ⟨tb, htb⟩ : ∃ z, (used11 us).2.2 = z := ⟨_, rfl⟩
      obtain ⟨fi, hfi⟩ : ∃ z, (fast11 us).1 = z := ⟨_, rfl⟩
      obtain ⟨fb, hfb⟩ : ∃ z, (fast11 us).2 = z := ⟨_, rfl⟩
      have hUi : Hid (∀ (w : World) (A : Option Addr) (c : Nat), RdF weaverF w w.heap.size A us.length c us → Calls Try.prog 16 #[.slice A us.length c] w (OutInts2 w lu se tb)) := Lib.hid fun w A c h => (by have := implLoomsUsed_any A _ c _ us w h (Nat.le_refl _); rw [hlu, hse, htb] at this; exact this)
      have hUs : Hid (∀ (w : World) (A : Option Addr) (c : Nat), RdF weaverF w w.heap.size A us.length c us → Calls Try.prog 17 #[.slice A us.length c] w (OutInts2 w lu se tb)) := Lib.hid fun w A c h => (by have := specLoomsUsed_any A _ c _ us w h (Nat.le_refl _); rw [hlu, hse, htb] at this; exact this)
      have hFi : Hid (∀ (w : World) (A : Option Addr) (c : Nat), RdF weaverF w w.heap.size A us.length c us → Calls Try.prog 20 #[.slice A us.length c] w (Out w (.tuple #[.int .i64 fi, .bool fb]))) := Lib.hid fun w A c h => (by have := implFastestFree_any A _ c _ us w h (Nat.le_refl _); rw [hfi, hfb] at this; exact this)
      have hFs : Hid (∀ (w : World) (A : Option Addr) (c : Nat), RdF weaverF w w.heap.size A us.length c us → Calls Try.prog 21 #[.slice A us.length c] w (Out w (.tuple #[.int .i64 fi, .bool fb]))) := Lib.hid fun w A c h => (by have := specFastestFree_any A _ c _ us w h (Nat.le_refl _); rw [hfi, hfb] at this; exact this)
      have HUS : Hid (tb = true → (∀ (k : Nat) (a : WeaverR), us[k]? = some a → a.f4 ≠ 0 → a.f4 ∈ lu) ∧ (∀ (k : Nat) (a : WeaverR), us[k]? = some a → 0 ≤ a.f4) ∧ sumI se = ((loomZ us).length : Nat) ∧ (∀ x ∈ se, 0 ≤ x ∧ x ≤ 1000000) ∧ se.length ≤ 1000) := Lib.hid fun ho => by
        have hg : weaversB us = true := by
          rw [← htb] at ho
          unfold used11 at ho
          split at ho
          · assumption
          · cases ho
        have he : used11 us = (looms11 us, seatL us (looms11 us), true) := if_pos hg
        rw [he] at hlu hse
        subst hlu hse
        refine ⟨fun k a ha h0 => loom_has ha h0, fun k a ha => (weaver_of (weavers_at hg ha)).2.2.2.2.1, looms_seats us, seatL_bd us (by omega) _, ?_⟩
        have h1 := looms11_len us
        have h2 := seatL_len us (looms11 us)
        show (seatL us (looms11 us)).length ≤ 1000
        omega
      clear hlu hse htb hfi hfb
      go_wp2_with fail
      refine (hUi.out _ _ _ OV.rd).mono ?_
      rintro e w9 ⟨A8, c8, A9, c9, rfl, own, own2, hdis, hb⟩
      replace OV := OV.all hb
      replace R := R.all hb HB.size
      have OA := own.mono HB.size
      clear own
      have OB := own2.mono HB.size
      clear own2
      replace HB := HB.trans (hb.mono HB.size)
      clear hb
      clear hdis
      go_wp2_with fail
      refine (hUs.out _ _ _ OV.rd).mono ?_
      rintro e w10 ⟨A10, c10, A11, c11, rfl, own, own2, hdis, hb⟩
      replace OV := OV.all hb
      replace OA := OA.all hb
      replace OB := OB.all hb
      replace R := R.all hb HB.size
      have OC := own.mono HB.size
      clear own
      have OD := own2.mono HB.size
      clear own2
      replace HB := HB.trans (hb.mono HB.size)
      clear hb
      clear hdis hUi hUs
      go_wp2_with fail
      refine (rInts_low _ _ _ _ _ _ _ _ lu _ OA.rd OC.rd).mono ?_
      rintro e w11 ⟨rfl, hb⟩
      replace OV := OV.all hb
      replace OA := OA.all hb
      replace OB := OB.all hb
      replace OC := OC.all hb
      replace OD := OD.all hb
      replace R := R.all hb HB.size
      replace HB := HB.trans (hb.mono HB.size)
      clear hb
      go_wp2_with fail
      refine (rInts_low _ _ _ _ _ _ _ _ se _ OB.rd OD.rd).mono ?_
      rintro e w12 ⟨rfl, hb⟩
      replace OV := OV.all hb
      replace OA := OA.all hb
      replace OB := OB.all hb
      replace OC := OC.all hb
      replace OD := OD.all hb
      replace R := R.all hb HB.size
      replace HB := HB.trans (hb.mono HB.size)
      clear hb
      clear OC OD
      cases tb
      case false =>
        clear HUS
        go_wp2
        go_loopw [27, 26] (fun ii ss wr => ii = .int .i64 0 ∧ ss = .int .i64 0 ∧ wr = w12) (fun _ _ _ => 0)
        case atStart => exact ⟨rfl, rfl, rfl⟩
        case round =>
          obtain ⟨rfl, rfl, hw⟩ := hrel
          subst hw
          by_cases hus : (0 : Int) < (us.length : Int)
          · skip
            go_wp2_with fail
            refine (hFi.out _ _ _ OV.rd).mono ?_
            rintro e w13 ⟨rfl, hb⟩
            replace OV := OV.all hb
            replace OA := OA.all hb
            replace OB := OB.all hb
            replace R := R.all hb HB.size
            replace HB := HB.trans (hb.mono HB.size)
            clear hb
            go_wp2_with fail
            refine (hFs.out _ _ _ OV.rd).mono ?_
            rintro e w14 ⟨rfl, hb⟩
            replace OV := OV.all hb
            replace OA := OA.all hb
            replace OB := OB.all hb
            replace R := R.all hb HB.size
            replace HB := HB.trans (hb.mono HB.size)
            clear hb
            clear hFi hFs
            go_wp2
            go_ret
            exact ⟨ret_bool (by simp), HB⟩
          · skip
            go_wp2_with fail
            refine (hFi.out _ _ _ OV.rd).mono ?_
            rintro e w13 ⟨rfl, hb⟩
            replace OV := OV.all hb
            replace OA := OA.all hb
            replace OB := OB.all hb
            replace R := R.all hb HB.size
            replace HB := HB.trans (hb.mono HB.size)
            clear hb
            go_wp2_with fail
            refine (hFs.out _ _ _ OV.rd).mono ?_
            rintro e w14 ⟨rfl, hb⟩
            replace OV := OV.all hb
            replace OA := OA.all hb
            replace OB := OB.all hb
            replace R := R.all hb HB.size
            replace HB := HB.trans (hb.mono HB.size)
            clear hb
            clear hFi hFs
            go_wp2
            go_ret
            exact ⟨ret_bool (by simp), HB⟩
      case true =>
        obtain ⟨hh1, hh2, hh3, hh4, hh5⟩ := HUS.out rfl
        have H1 := Lib.hid hh1
        have H2 := Lib.hid hh2
        have H3 := Lib.hid hh3
        have H4 := Lib.hid hh4
        clear HUS hh1 hh2 hh3 hh4
        go_wp2
        go_loopw [27, 26] (fun ii ss wr => ∃ k m : Nat, k ≤ us.length ∧ ii = .int .i64 k ∧ ss = .int .i64 m ∧ m ≤ k ∧ Hid ((loomZ (us.take k)).length = m) ∧ wr = w12) (fun ii _ _ => us.length - (intOf ii).toNat)
        case atStart => exact ⟨0, 0, Nat.zero_le _, rfl, rfl, Nat.le_refl _, Lib.hid (by simp [loomZ]), rfl⟩
        case round =>
          obtain ⟨k, m, hk, rfl, rfl, hmk, HM, hw⟩ := hrel
          subst hw
          by_cases hlt : k < us.length
          · have hrv := OV.rd
            obtain ⟨b, off, a, rfl, _, _, HX, _, _, _, _, hc4⟩ := WeaverR_at (F := weaverF) rfl (fun _ => rfl) (fun _ => rfl) hrv hlt
            have h0 := H2.out k a HX.out
            have HC := Lib.hid (loomZ_count HX.out)
            by_cases h4 : a.f4 = 0
            · have HN := Lib.hid (show (loomZ (us.take (k + 1))).length = m by rw [HC.out, if_pos h4, HM.out]; rfl)
              have f4 : decide (0 < a.f4) = false := decide_eq_false (by omega)
              have f5 : ¬ 0 < a.f4 := by omega
              clear h4 h0
              go_wp2
              go_roundw
              case rel => exact ⟨k + 1, m, by omega, by go_num, rfl, by omega, HN, by first | rfl | trivial⟩
              case measure => simp [intOf]; omega
            · have HN := Lib.hid (show (loomZ (us.take (k + 1))).length = m + 1 by rw [HC.out, if_neg h4, HM.out])
              have f4 : decide (0 < a.f4) = true := decide_eq_true (by omega)
              have f5 : 0 < a.f4 := by omega
              have HH := Lib.hid (decide_eq_true (H1.out k a HX.out h4))
              clear h4 h0
              have hra := OA.rd
              go_wp2_with fail
              refine (rHas_eq _ _ _ _ lu a.f4 _ true hra HH).mono ?_
              rintro e w' ⟨rfl, rfl⟩
              go_wp2
              go_roundw
              case rel => exact ⟨k + 1, m + 1, by omega, by go_num, by go_num, by omega, HN, by first | rfl | trivial⟩
              case measure => simp [intOf]; omega
          · obtain rfl : k = us.length := by omega
            have HS := Lib.hid (show sumI se = (m : Int) by rw [H3.out, ← HM.out, List.take_length])
            clear H1 H2 H3 HM
            go_wp2_with fail
            refine (hFi.out _ _ _ OV.rd).mono ?_
            rintro e w13 ⟨rfl, hb⟩
            replace OV := OV.all hb
            replace OA := OA.all hb
            replace OB := OB.all hb
            replace R := R.all hb HB.size
            replace HB := HB.trans (hb.mono HB.size)
            clear hb
            go_wp2_with fail
            refine (hFs.out _ _ _ OV.rd).mono ?_
            rintro e w14 ⟨rfl, hb⟩
            replace OV := OV.all hb
            replace OA := OA.all hb
            replace OB := OB.all hb
            replace R := R.all hb HB.size
            replace HB := HB.trans (hb.mono HB.size)
            clear hb
            clear hFi hFs
            have hrb := OB.rd
            go_wp2_with fail
            refine (rSum_eq _ _ _ _ se _ (m : Int) hrb hh5 H4 HS).mono ?_
            rintro e w' ⟨rfl, rfl⟩
            go_wp2
            go_ret
            exact ⟨ret_bool (by simp), HB⟩
    case true =>
      have HV := Lib.hid (HSV.out rfl)
      clear HSV
      go_wp2_with fail
      refine (implAreWeavers_eq _ _ _ _ sz _ true OT.rd (Nat.le_refl _) HV.out).mono ?_
      rintro e w8 ⟨rfl, hb⟩
      replace OT := OT.all hb
      replace R := R.all hb HB.size
      replace HB := HB.trans (hb.mono HB.size)
      clear hb
      clear HV
      clear OT
      go_wp2_with fail
      refine (drawLoomsUsed_any A n c w.heap.size _ R HB.size hn).mono ?_
      rintro e w9 ⟨A4, c4, us, rfl, hul, own, hb⟩
      replace R := R.all hb HB.size
      have OV := own.mono HB.size
      clear own
      replace HB := HB.trans (hb.mono HB.size)
      clear hb
      obtain ⟨lu, hlu⟩ : ∃ z, (used11 us).1 = z := ⟨_, rfl⟩
      obtain ⟨se, hse⟩ : ∃ z, (used11 us).2.1 = z := ⟨_, rfl⟩
      obtain ⟨tb, htb⟩ : ∃ z, (used11 us).2.2 = z := ⟨_, rfl⟩
      obtain ⟨fi, hfi⟩ : ∃ z, (fast11 us).1 = z := ⟨_, rfl⟩
      obtain ⟨fb, hfb⟩ : ∃ z, (fast11 us).2 = z := ⟨_, rfl⟩
      have hUi : Hid (∀ (w : World) (A : Option Addr) (c : Nat), RdF weaverF w w.heap.size A us.length c us → Calls Try.prog 16 #[.slice A us.length c] w (OutInts2 w lu se tb)) := Lib.hid fun w A c h => (by have := implLoomsUsed_any A _ c _ us w h (Nat.le_refl _); rw [hlu, hse, htb] at this; exact this)
      have hUs : Hid (∀ (w : World) (A : Option Addr) (c : Nat), RdF weaverF w w.heap.size A us.length c us → Calls Try.prog 17 #[.slice A us.length c] w (OutInts2 w lu se tb)) := Lib.hid fun w A c h => (by have := specLoomsUsed_any A _ c _ us w h (Nat.le_refl _); rw [hlu, hse, htb] at this; exact this)
      have hFi : Hid (∀ (w : World) (A : Option Addr) (c : Nat), RdF weaverF w w.heap.size A us.length c us → Calls Try.prog 20 #[.slice A us.length c] w (Out w (.tuple #[.int .i64 fi, .bool fb]))) := Lib.hid fun w A c h => (by have := implFastestFree_any A _ c _ us w h (Nat.le_refl _); rw [hfi, hfb] at this; exact this)
      have hFs : Hid (∀ (w : World) (A : Option Addr) (c : Nat), RdF weaverF w w.heap.size A us.length c us → Calls Try.prog 21 #[.slice A us.length c] w (Out w (.tuple #[.int .i64 fi, .bool fb]))) := Lib.hid fun w A c h => (by have := specFastestFree_any A _ c _ us w h (Nat.le_refl _); rw [hfi, hfb] at this; exact this)
      have HUS : Hid (tb = true → (∀ (k : Nat) (a : WeaverR), us[k]? = some a → a.f4 ≠ 0 → a.f4 ∈ lu) ∧ (∀ (k : Nat) (a : WeaverR), us[k]? = some a → 0 ≤ a.f4) ∧ sumI se = ((loomZ us).length : Nat) ∧ (∀ x ∈ se, 0 ≤ x ∧ x ≤ 1000000) ∧ se.length ≤ 1000) := Lib.hid fun ho => by
        have hg : weaversB us = true := by
          rw [← htb] at ho
          unfold used11 at ho
          split at ho
          · assumption
          · cases ho
        have he : used11 us = (looms11 us, seatL us (looms11 us), true) := if_pos hg
        rw [he] at hlu hse
        subst hlu hse
        refine ⟨fun k a ha h0 => loom_has ha h0, fun k a ha => (weaver_of (weavers_at hg ha)).2.2.2.2.1, looms_seats us, seatL_bd us (by omega) _, ?_⟩
        have h1 := looms11_len us
        have h2 := seatL_len us (looms11 us)
        show (seatL us (looms11 us)).length ≤ 1000
        omega
      clear hlu hse htb hfi hfb
      go_wp2_with fail
      refine (hUi.out _ _ _ OV.rd).mono ?_
      rintro e w10 ⟨A8, c8, A9, c9, rfl, own, own2, hdis, hb⟩
      replace OV := OV.all hb
      replace R := R.all hb HB.size
      have OA := own.mono HB.size
      clear own
      have OB := own2.mono HB.size
      clear own2
      replace HB := HB.trans (hb.mono HB.size)
      clear hb
      clear hdis
      go_wp2_with fail
      refine (hUs.out _ _ _ OV.rd).mono ?_
      rintro e w11 ⟨A10, c10, A11, c11, rfl, own, own2, hdis, hb⟩
      replace OV := OV.all hb
      replace OA := OA.all hb
      replace OB := OB.all hb
      replace R := R.all hb HB.size
      have OC := own.mono HB.size
      clear own
      have OD := own2.mono HB.size
      clear own2
      replace HB := HB.trans (hb.mono HB.size)
      clear hb
      clear hdis hUi hUs
      go_wp2_with fail
      refine (rInts_low _ _ _ _ _ _ _ _ lu _ OA.rd OC.rd).mono ?_
      rintro e w12 ⟨rfl, hb⟩
      replace OV := OV.all hb
      replace OA := OA.all hb
      replace OB := OB.all hb
      replace OC := OC.all hb
      replace OD := OD.all hb
      replace R := R.all hb HB.size
      replace HB := HB.trans (hb.mono HB.size)
      clear hb
      go_wp2_with fail
      refine (rInts_low _ _ _ _ _ _ _ _ se _ OB.rd OD.rd).mono ?_
      rintro e w13 ⟨rfl, hb⟩
      replace OV := OV.all hb
      replace OA := OA.all hb
      replace OB := OB.all hb
      replace OC := OC.all hb
      replace OD := OD.all hb
      replace R := R.all hb HB.size
      replace HB := HB.trans (hb.mono HB.size)
      clear hb
      clear OC OD
      cases tb
      case false =>
        clear HUS
        go_wp2
        go_loopw [27, 26] (fun ii ss wr => ii = .int .i64 0 ∧ ss = .int .i64 0 ∧ wr = w13) (fun _ _ _ => 0)
        case atStart => exact ⟨rfl, rfl, rfl⟩
        case round =>
          obtain ⟨rfl, rfl, hw⟩ := hrel
          subst hw
          by_cases hus : (0 : Int) < (us.length : Int)
          · skip
            go_wp2_with fail
            refine (hFi.out _ _ _ OV.rd).mono ?_
            rintro e w14 ⟨rfl, hb⟩
            replace OV := OV.all hb
            replace OA := OA.all hb
            replace OB := OB.all hb
            replace R := R.all hb HB.size
            replace HB := HB.trans (hb.mono HB.size)
            clear hb
            go_wp2_with fail
            refine (hFs.out _ _ _ OV.rd).mono ?_
            rintro e w15 ⟨rfl, hb⟩
            replace OV := OV.all hb
            replace OA := OA.all hb
            replace OB := OB.all hb
            replace R := R.all hb HB.size
            replace HB := HB.trans (hb.mono HB.size)
            clear hb
            clear hFi hFs
            go_wp2
            go_ret
            exact ⟨ret_bool (by simp), HB⟩
          · skip
            go_wp2_with fail
            refine (hFi.out _ _ _ OV.rd).mono ?_
            rintro e w14 ⟨rfl, hb⟩
            replace OV := OV.all hb
            replace OA := OA.all hb
            replace OB := OB.all hb
            replace R := R.all hb HB.size
            replace HB := HB.trans (hb.mono HB.size)
            clear hb
            go_wp2_with fail
            refine (hFs.out _ _ _ OV.rd).mono ?_
            rintro e w15 ⟨rfl, hb⟩
            replace OV := OV.all hb
            replace OA := OA.all hb
            replace OB := OB.all hb
            replace R := R.all hb HB.size
            replace HB := HB.trans (hb.mono HB.size)
            clear hb
            clear hFi hFs
            go_wp2
            go_ret
            exact ⟨ret_bool (by simp), HB⟩
      case true =>
        obtain ⟨hh1, hh2, hh3, hh4, hh5⟩ := HUS.out rfl
        have H1 := Lib.hid hh1
        have H2 := Lib.hid hh2
        have H3 := Lib.hid hh3
        have H4 := Lib.hid hh4
        clear HUS hh1 hh2 hh3 hh4
        go_wp2
        go_loopw [27, 26] (fun ii ss wr => ∃ k m : Nat, k ≤ us.length ∧ ii = .int .i64 k ∧ ss = .int .i64 m ∧ m ≤ k ∧ Hid ((loomZ (us.take k)).length = m) ∧ wr = w13) (fun ii _ _ => us.length - (intOf ii).toNat)
        case atStart => exact ⟨0, 0, Nat.zero_le _, rfl, rfl, Nat.le_refl _, Lib.hid (by simp [loomZ]), rfl⟩
        case round =>
          obtain ⟨k, m, hk, rfl, rfl, hmk, HM, hw⟩ := hrel
          subst hw
          by_cases hlt : k < us.length
          · have hrv := OV.rd
            obtain ⟨b, off, a, rfl, _, _, HX, _, _, _, _, hc4⟩ := WeaverR_at (F := weaverF) rfl (fun _ => rfl) (fun _ => rfl) hrv hlt
            have h0 := H2.out k a HX.out
            have HC := Lib.hid (loomZ_count HX.out)
            by_cases h4 : a.f4 = 0
            · have HN := Lib.hid (show (loomZ (us.take (k + 1))).length = m by rw [HC.out, if_pos h4, HM.out]; rfl)
              have f4 : decide (0 < a.f4) = false := decide_eq_false (by omega)
              have f5 : ¬ 0 < a.f4 := by omega
              clear h4 h0
              go_wp2
              go_roundw
              case rel => exact ⟨k + 1, m, by omega, by go_num, rfl, by omega, HN, by first | rfl | trivial⟩
              case measure => simp [intOf]; omega
            · have HN := Lib.hid (show (loomZ (us.take (k + 1))).length = m + 1 by rw [HC.out, if_neg h4, HM.out])
              have f4 : decide (0 < a.f4) = true := decide_eq_true (by omega)
              have f5 : 0 < a.f4 := by omega
              have HH := Lib.hid (decide_eq_true (H1.out k a HX.out h4))
              clear h4 h0
              have hra := OA.rd
              go_wp2_with fail
              refine (rHas_eq _ _ _ _ lu a.f4 _ true hra HH).mono ?_
              rintro e w' ⟨rfl, rfl⟩
              go_wp2
              go_roundw
              case rel => exact ⟨k + 1, m + 1, by omega, by go_num, by go_num, by omega, HN, by first | rfl | trivial⟩
              case measure => simp [intOf]; omega
          · obtain rfl : k = us.length := by omega
            have HS := Lib.hid (show sumI se = (m : Int) by rw [H3.out, ← HM.out, List.take_length])
            clear H1 H2 H3 HM
            go_wp2_with fail
            refine (hFi.out _ _ _ OV.rd).mono ?_
            rintro e w14 ⟨rfl, hb⟩
            replace OV := OV.all hb
            replace OA := OA.all hb
            replace OB := OB.all hb
            replace R := R.all hb HB.size
            replace HB := HB.trans (hb.mono HB.size)
            clear hb
            go_wp2_with fail
            refine (hFs.out _ _ _ OV.rd).mono ?_
            rintro e w15 ⟨rfl, hb⟩
            replace OV := OV.all hb
            replace OA := OA.all hb
            replace OB := OB.all hb
            replace R := R.all hb HB.size
            replace HB := HB.trans (hb.mono HB.size)
            clear hb
            clear hFi hFs
            have hrb := OB.rd
            go_wp2_with fail
            refine (rSum_eq _ _ _ _ se _ (m : Int) hrb hh5 H4 HS).mono ?_
            rintro e w' ⟨rfl, rfl⟩
            go_wp2
            go_ret
            exact ⟨ret_bool (by simp), HB⟩
  case true =>
    obtain ⟨N, hc, hN, hd0, hk0, h5, h6⟩ := HDY.out rfl
    have HC := Lib.hid hc
    clear HDY hc
    go_wp2_with fail
    refine (HC.out _ _ _ OX.rd).mono ?_
    rintro e w4 ⟨rfl, hb⟩
    replace OX := OX.all hb
    replace R := R.all hb HB.size
    replace HB := HB.trans (hb.mono HB.size)
    clear hb
    have M1 := mul_bd hN.1 hN.2 hd0.1 hd0.2
    have E1 : IntKind.i64.wrap (N * d) = N * d := IntWalk.i64_in _ (by omega)
    have F1 : decide (N * d < kn) = false := decide_eq_false (by omega)
    have F2 : ¬ N * d < kn := by omega
    by_cases hdp : 0 < d
    · have h7 := h6 hdp
      have M2 := mul_bd hN.1 hN.2 (show 0 ≤ d - 1 by omega) (show d - 1 ≤ 20000000 by omega)
      have E2 : IntKind.i64.wrap (N * (d - 1)) = N * (d - 1) := IntWalk.i64_in _ (by omega)
      have E3 : IntKind.i64.wrap (d - 1) = d - 1 := IntWalk.i64_in _ (by omega)
      have F3 : decide (kn ≤ N * (d - 1)) = false := decide_eq_false (by omega)
      have F4 : ¬ kn ≤ N * (d - 1) := by omega
      clear h5 h6 h7 M1 M2 HC
      go_wp2_with fail
      refine (drawSeatWeaver_any A n c w.heap.size _ R HB.size hn).mono ?_
      rintro e w5 ⟨A3, c3, ls, id, at_, rfl, hll, hid, hat, own, hb⟩
      replace OX := OX.all hb
      replace R := R.all hb HB.size
      have OL := own.mono HB.size
      clear own
      replace HB := HB.trans (hb.mono HB.size)
      clear hb
      clear E1 F1 F2 E2 E3 F3 F4
      clear OX
      obtain ⟨sz, hsz⟩ : ∃ z, (seat11 ls id at_).1 = z := ⟨_, rfl⟩
      obtain ⟨sb, hsb⟩ : ∃ z, (seat11 ls id at_).2 = z := ⟨_, rfl⟩
      have hSi : Hid (∀ (w : World) (A : Option Addr) (c : Nat), RdF weaverF w w.heap.size A ls.length c ls → Calls Try.prog 11 #[.slice A ls.length c, .int .i64 id, .int .i64 at_] w (OutF weaverF w sz sb)) := Lib.hid fun w A c h => (by have := implSeatWeaver_any A _ c _ ls id at_ w h (Nat.le_refl _) hat; rw [hsz, hsb] at this; exact this)
      have hSs : Hid (∀ (w : World) (A : Option Addr) (c : Nat), RdF weaverF w w.heap.size A ls.length c ls → Calls Try.prog 12 #[.slice A ls.length c, .int .i64 id, .int .i64 at_] w (OutF weaverF w sz sb)) := Lib.hid fun w A c h => (by have := specSeatWeaver_any A _ c _ ls id at_ w h (Nat.le_refl _) hat; rw [hsz, hsb] at this; exact this)
      have HSV : Hid (sb = true → weaversB sz = true) := Lib.hid fun ho => seat_valid (xs := ls) (id := id) (loom := at_) (by rw [← hsz, ← ho, ← hsb])
      clear hsz hsb hll hid
      go_wp2_with fail
      refine (hSi.out _ _ _ OL.rd).mono ?_
      rintro e w6 ⟨A6, c6, rfl, own, hb⟩
      replace OL := OL.all hb
      replace R := R.all hb HB.size
      have OT := own.mono HB.size
      clear own
      replace HB := HB.trans (hb.mono HB.size)
      clear hb
      go_wp2_with fail
      refine (hSs.out _ _ _ OL.rd).mono ?_
      rintro e w7 ⟨A7, c7, rfl, own, hb⟩
      replace OL := OL.all hb
      replace OT := OT.all hb
      replace R := R.all hb HB.size
      have OU := own.mono HB.size
      clear own
      replace HB := HB.trans (hb.mono HB.size)
      clear hb
      clear hSi hSs hat
      clear OL
      go_wp2_with fail
      refine (rWeavers_same _ _ _ _ _ _ _ _ sz _ OT.rd OU.rd).mono ?_
      rintro e w8 ⟨rfl, hb⟩
      replace OT := OT.all hb
      replace OU := OU.all hb
      replace R := R.all hb HB.size
      replace HB := HB.trans (hb.mono HB.size)
      clear hb
      clear OU
      cases sb
      case false =>
        clear HSV
        clear OT
        go_wp2_with fail
        refine (drawLoomsUsed_any A n c w.heap.size _ R HB.size hn).mono ?_
        rintro e w9 ⟨A4, c4, us, rfl, hul, own, hb⟩
        replace R := R.all hb HB.size
        have OV := own.mono HB.size
        clear own
        replace HB := HB.trans (hb.mono HB.size)
        clear hb
        obtain ⟨lu, hlu⟩ : ∃ z, (used11 us).1 = z := ⟨_, rfl⟩
        obtain ⟨se, hse⟩ : ∃ z, (used11 us).2.1 = z := ⟨_, rfl⟩
        obtain ⟨tb, htb⟩ : ∃ z, (used11 us).2.2 = z := ⟨_, rfl⟩
        obtain ⟨fi, hfi⟩ : ∃ z, (fast11 us).1 = z := ⟨_, rfl⟩
        obtain ⟨fb, hfb⟩ : ∃ z, (fast11 us).2 = z := ⟨_, rfl⟩
        have hUi : Hid (∀ (w : World) (A : Option Addr) (c : Nat), RdF weaverF w w.heap.size A us.length c us → Calls Try.prog 16 #[.slice A us.length c] w (OutInts2 w lu se tb)) := Lib.hid fun w A c h => (by have := implLoomsUsed_any A _ c _ us w h (Nat.le_refl _); rw [hlu, hse, htb] at this; exact this)
        have hUs : Hid (∀ (w : World) (A : Option Addr) (c : Nat), RdF weaverF w w.heap.size A us.length c us → Calls Try.prog 17 #[.slice A us.length c] w (OutInts2 w lu se tb)) := Lib.hid fun w A c h => (by have := specLoomsUsed_any A _ c _ us w h (Nat.le_refl _); rw [hlu, hse, htb] at this; exact this)
        have hFi : Hid (∀ (w : World) (A : Option Addr) (c : Nat), RdF weaverF w w.heap.size A us.length c us → Calls Try.prog 20 #[.slice A us.length c] w (Out w (.tuple #[.int .i64 fi, .bool fb]))) := Lib.hid fun w A c h => (by have := implFastestFree_any A _ c _ us w h (Nat.le_refl _); rw [hfi, hfb] at this; exact this)
        have hFs : Hid (∀ (w : World) (A : Option Addr) (c : Nat), RdF weaverF w w.heap.size A us.length c us → Calls Try.prog 21 #[.slice A us.length c] w (Out w (.tuple #[.int .i64 fi, .bool fb]))) := Lib.hid fun w A c h => (by have := specFastestFree_any A _ c _ us w h (Nat.le_refl _); rw [hfi, hfb] at this; exact this)
        have HUS : Hid (tb = true → (∀ (k : Nat) (a : WeaverR), us[k]? = some a → a.f4 ≠ 0 → a.f4 ∈ lu) ∧ (∀ (k : Nat) (a : WeaverR), us[k]? = some a → 0 ≤ a.f4) ∧ sumI se = ((loomZ us).length : Nat) ∧ (∀ x ∈ se, 0 ≤ x ∧ x ≤ 1000000) ∧ se.length ≤ 1000) := Lib.hid fun ho => by
          have hg : weaversB us = true := by
            rw [← htb] at ho
            unfold used11 at ho
            split at ho
            · assumption
            · cases ho
          have he : used11 us = (looms11 us, seatL us (looms11 us), true) := if_pos hg
          rw [he] at hlu hse
          subst hlu hse
          refine ⟨fun k a ha h0 => loom_has ha h0, fun k a ha => (weaver_of (weavers_at hg ha)).2.2.2.2.1, looms_seats us, seatL_bd us (by omega) _, ?_⟩
          have h1 := looms11_len us
          have h2 := seatL_len us (looms11 us)
          show (seatL us (looms11 us)).length ≤ 1000
          omega
        clear hlu hse htb hfi hfb
        go_wp2_with fail
        refine (hUi.out _ _ _ OV.rd).mono ?_
        rintro e w10 ⟨A8, c8, A9, c9, rfl, own, own2, hdis, hb⟩
        replace OV := OV.all hb
        replace R := R.all hb HB.size
        have OA := own.mono HB.size
        clear own
        have OB := own2.mono HB.size
        clear own2
        replace HB := HB.trans (hb.mono HB.size)
        clear hb
        clear hdis
        go_wp2_with fail
        refine (hUs.out _ _ _ OV.rd).mono ?_
        rintro e w11 ⟨A10, c10, A11, c11, rfl, own, own2, hdis, hb⟩
        replace OV := OV.all hb
        replace OA := OA.all hb
        replace OB := OB.all hb
        replace R := R.all hb HB.size
        have OC := own.mono HB.size
        clear own
        have OD := own2.mono HB.size
        clear own2
        replace HB := HB.trans (hb.mono HB.size)
        clear hb
        clear hdis hUi hUs
        go_wp2_with fail
        refine (rInts_low _ _ _ _ _ _ _ _ lu _ OA.rd OC.rd).mono ?_
        rintro e w12 ⟨rfl, hb⟩
        replace OV := OV.all hb
        replace OA := OA.all hb
        replace OB := OB.all hb
        replace OC := OC.all hb
        replace OD := OD.all hb
        replace R := R.all hb HB.size
        replace HB := HB.trans (hb.mono HB.size)
        clear hb
        go_wp2_with fail
        refine (rInts_low _ _ _ _ _ _ _ _ se _ OB.rd OD.rd).mono ?_
        rintro e w13 ⟨rfl, hb⟩
        replace OV := OV.all hb
        replace OA := OA.all hb
        replace OB := OB.all hb
        replace OC := OC.all hb
        replace OD := OD.all hb
        replace R := R.all hb HB.size
        replace HB := HB.trans (hb.mono HB.size)
        clear hb
        clear OC OD
        cases tb
        case false =>
          clear HUS
          go_wp2
          go_loopw [27, 26] (fun ii ss wr => ii = .int .i64 0 ∧ ss = .int .i64 0 ∧ wr = w13) (fun _ _ _ => 0)
          case atStart => exact ⟨rfl, rfl, rfl⟩
          case round =>
            obtain ⟨rfl, rfl, hw⟩ := hrel
            subst hw
            by_cases hus : (0 : Int) < (us.length : Int)
            · skip
              go_wp2_with fail
              refine (hFi.out _ _ _ OV.rd).mono ?_
              rintro e w14 ⟨rfl, hb⟩
              replace OV := OV.all hb
              replace OA := OA.all hb
              replace OB := OB.all hb
              replace R := R.all hb HB.size
              replace HB := HB.trans (hb.mono HB.size)
              clear hb
              go_wp2_with fail
              refine (hFs.out _ _ _ OV.rd).mono ?_
              rintro e w15 ⟨rfl, hb⟩
              replace OV := OV.all hb
              replace OA := OA.all hb
              replace OB := OB.all hb
              replace R := R.all hb HB.size
              replace HB := HB.trans (hb.mono HB.size)
              clear hb
              clear hFi hFs
              go_wp2
              go_ret
              exact ⟨ret_bool (by simp), HB⟩
            · skip
              go_wp2_with fail
              refine (hFi.out _ _ _ OV.rd).mono ?_
              rintro e w14 ⟨rfl, hb⟩
              replace OV := OV.all hb
              replace OA := OA.all hb
              replace OB := OB.all hb
              replace R := R.all hb HB.size
              replace HB := HB.trans (hb.mono HB.size)
              clear hb
              go_wp2_with fail
              refine (hFs.out _ _ _ OV.rd).mono ?_
              rintro e w15 ⟨rfl, hb⟩
              replace OV := OV.all hb
              replace OA := OA.all hb
              replace OB := OB.all hb
              replace R := R.all hb HB.size
              replace HB := HB.trans (hb.mono HB.size)
              clear hb
              clear hFi hFs
              go_wp2
              go_ret
              exact ⟨ret_bool (by simp), HB⟩
        case true =>
          obtain ⟨hh1, hh2, hh3, hh4, hh5⟩ := HUS.out rfl
          have H1 := Lib.hid hh1
          have H2 := Lib.hid hh2
          have H3 := Lib.hid hh3
          have H4 := Lib.hid hh4
          clear HUS hh1 hh2 hh3 hh4
          go_wp2
          go_loopw [27, 26] (fun ii ss wr => ∃ k m : Nat, k ≤ us.length ∧ ii = .int .i64 k ∧ ss = .int .i64 m ∧ m ≤ k ∧ Hid ((loomZ (us.take k)).length = m) ∧ wr = w13) (fun ii _ _ => us.length - (intOf ii).toNat)
          case atStart => exact ⟨0, 0, Nat.zero_le _, rfl, rfl, Nat.le_refl _, Lib.hid (by simp [loomZ]), rfl⟩
          case round =>
            obtain ⟨k, m, hk, rfl, rfl, hmk, HM, hw⟩ := hrel
            subst hw
            by_cases hlt : k < us.length
            · have hrv := OV.rd
              obtain ⟨b, off, a, rfl, _, _, HX, _, _, _, _, hc4⟩ := WeaverR_at (F := weaverF) rfl (fun _ => rfl) (fun _ => rfl) hrv hlt
              have h0 := H2.out k a HX.out
              have HC := Lib.hid (loomZ_count HX.out)
              by_cases h4 : a.f4 = 0
              · have HN := Lib.hid (show (loomZ (us.take (k + 1))).length = m by rw [HC.out, if_pos h4, HM.out]; rfl)
                have f4 : decide (0 < a.f4) = false := decide_eq_false (by omega)
                have f5 : ¬ 0 < a.f4 := by omega
                clear h4 h0
                go_wp2
                go_roundw
                case rel => exact ⟨k + 1, m, by omega, by go_num, rfl, by omega, HN, by first | rfl | trivial⟩
                case measure => simp [intOf]; omega
              · have HN := Lib.hid (show (loomZ (us.take (k + 1))).length = m + 1 by rw [HC.out, if_neg h4, HM.out])
                have f4 : decide (0 < a.f4) = true := decide_eq_true (by omega)
                have f5 : 0 < a.f4 := by omega
                have HH := Lib.hid (decide_eq_true (H1.out k a HX.out h4))
                clear h4 h0
                have hra := OA.rd
                go_wp2_with fail
                refine (rHas_eq _ _ _ _ lu a.f4 _ true hra HH).mono ?_
                rintro e w' ⟨rfl, rfl⟩
                go_wp2
                go_roundw
                case rel => exact ⟨k + 1, m + 1, by omega, by go_num, by go_num, by omega, HN, by first | rfl | trivial⟩
                case measure => simp [intOf]; omega
            · obtain rfl : k = us.length := by omega
              have HS := Lib.hid (show sumI se = (m : Int) by rw [H3.out, ← HM.out, List.take_length])
              clear H1 H2 H3 HM
              go_wp2_with fail
              refine (hFi.out _ _ _ OV.rd).mono ?_
              rintro e w14 ⟨rfl, hb⟩
              replace OV := OV.all hb
              replace OA := OA.all hb
              replace OB := OB.all hb
              replace R := R.all hb HB.size
              replace HB := HB.trans (hb.mono HB.size)
              clear hb
              go_wp2_with fail
              refine (hFs.out _ _ _ OV.rd).mono ?_
              rintro e w15 ⟨rfl, hb⟩
              replace OV := OV.all hb
              replace OA := OA.all hb
              replace OB := OB.all hb
              replace R := R.all hb HB.size
              replace HB := HB.trans (hb.mono HB.size)
              clear hb
              clear hFi hFs
              have hrb := OB.rd
              go_wp2_with fail
              refine (rSum_eq _ _ _ _ se _ (m : Int) hrb hh5 H4 HS).mono ?_
              rintro e w' ⟨rfl, rfl⟩
              go_wp2
              go_ret
              exact ⟨ret_bool (by simp), HB⟩
      case true =>
        have HV := Lib.hid (HSV.out rfl)
        clear HSV
        go_wp2_with fail
        refine (implAreWeavers_eq _ _ _ _ sz _ true OT.rd (Nat.le_refl _) HV.out).mono ?_
        rintro e w9 ⟨rfl, hb⟩
        replace OT := OT.all hb
        replace R := R.all hb HB.size
        replace HB := HB.trans (hb.mono HB.size)
        clear hb
        clear HV
        clear OT
        go_wp2_with fail
        refine (drawLoomsUsed_any A n c w.heap.size _ R HB.size hn).mono ?_
        rintro e w10 ⟨A4, c4, us, rfl, hul, own, hb⟩
        replace R := R.all hb HB.size
        have OV := own.mono HB.size
        clear own
        replace HB := HB.trans (hb.mono HB.size)
        clear hb
        obtain ⟨lu, hlu⟩ : ∃ z, (used11 us).1 = z := ⟨_, rfl⟩
        obtain ⟨se, hse⟩ : ∃ z, (used11 us).2.1 = z := ⟨_, rfl⟩
        obtain ⟨tb, htb⟩ : ∃ z, (used11 us).2.2 = z := ⟨_, rfl⟩
        obtain ⟨fi, hfi⟩ : ∃ z, (fast11 us).1 = z := ⟨_, rfl⟩
        obtain ⟨fb, hfb⟩ : ∃ z, (fast11 us).2 = z := ⟨_, rfl⟩
        have hUi : Hid (∀ (w : World) (A : Option Addr) (c : Nat), RdF weaverF w w.heap.size A us.length c us → Calls Try.prog 16 #[.slice A us.length c] w (OutInts2 w lu se tb)) := Lib.hid fun w A c h => (by have := implLoomsUsed_any A _ c _ us w h (Nat.le_refl _); rw [hlu, hse, htb] at this; exact this)
        have hUs : Hid (∀ (w : World) (A : Option Addr) (c : Nat), RdF weaverF w w.heap.size A us.length c us → Calls Try.prog 17 #[.slice A us.length c] w (OutInts2 w lu se tb)) := Lib.hid fun w A c h => (by have := specLoomsUsed_any A _ c _ us w h (Nat.le_refl _); rw [hlu, hse, htb] at this; exact this)
        have hFi : Hid (∀ (w : World) (A : Option Addr) (c : Nat), RdF weaverF w w.heap.size A us.length c us → Calls Try.prog 20 #[.slice A us.length c] w (Out w (.tuple #[.int .i64 fi, .bool fb]))) := Lib.hid fun w A c h => (by have := implFastestFree_any A _ c _ us w h (Nat.le_refl _); rw [hfi, hfb] at this; exact this)
        have hFs : Hid (∀ (w : World) (A : Option Addr) (c : Nat), RdF weaverF w w.heap.size A us.length c us → Calls Try.prog 21 #[.slice A us.length c] w (Out w (.tuple #[.int .i64 fi, .bool fb]))) := Lib.hid fun w A c h => (by have := specFastestFree_any A _ c _ us w h (Nat.le_refl _); rw [hfi, hfb] at this; exact this)
        have HUS : Hid (tb = true → (∀ (k : Nat) (a : WeaverR), us[k]? = some a → a.f4 ≠ 0 → a.f4 ∈ lu) ∧ (∀ (k : Nat) (a : WeaverR), us[k]? = some a → 0 ≤ a.f4) ∧ sumI se = ((loomZ us).length : Nat) ∧ (∀ x ∈ se, 0 ≤ x ∧ x ≤ 1000000) ∧ se.length ≤ 1000) := Lib.hid fun ho => by
          have hg : weaversB us = true := by
            rw [← htb] at ho
            unfold used11 at ho
            split at ho
            · assumption
            · cases ho
          have he : used11 us = (looms11 us, seatL us (looms11 us), true) := if_pos hg
          rw [he] at hlu hse
          subst hlu hse
          refine ⟨fun k a ha h0 => loom_has ha h0, fun k a ha => (weaver_of (weavers_at hg ha)).2.2.2.2.1, looms_seats us, seatL_bd us (by omega) _, ?_⟩
          have h1 := looms11_len us
          have h2 := seatL_len us (looms11 us)
          show (seatL us (looms11 us)).length ≤ 1000
          omega
        clear hlu hse htb hfi hfb
        go_wp2_with fail
        refine (hUi.out _ _ _ OV.rd).mono ?_
        rintro e w11 ⟨A8, c8, A9, c9, rfl, own, own2, hdis, hb⟩
        replace OV := OV.all hb
        replace R := R.all hb HB.size
        have OA := own.mono HB.size
        clear own
        have OB := own2.mono HB.size
        clear own2
        replace HB := HB.trans (hb.mono HB.size)
        clear hb
        clear hdis
        go_wp2_with fail
        refine (hUs.out _ _ _ OV.rd).mono ?_
        rintro e w12 ⟨A10, c10, A11, c11, rfl, own, own2, hdis, hb⟩
        replace OV := OV.all hb
        replace OA := OA.all hb
        replace OB := OB.all hb
        replace R := R.all hb HB.size
        have OC := own.mono HB.size
        clear own
        have OD := own2.mono HB.size
        clear own2
        replace HB := HB.trans (hb.mono HB.size)
        clear hb
        clear hdis hUi hUs
        go_wp2_with fail
        refine (rInts_low _ _ _ _ _ _ _ _ lu _ OA.rd OC.rd).mono ?_
        rintro e w13 ⟨rfl, hb⟩
        replace OV := OV.all hb
        replace OA := OA.all hb
        replace OB := OB.all hb
        replace OC := OC.all hb
        replace OD := OD.all hb
        replace R := R.all hb HB.size
        replace HB := HB.trans (hb.mono HB.size)
        clear hb
        go_wp2_with fail
        refine (rInts_low _ _ _ _ _ _ _ _ se _ OB.rd OD.rd).mono ?_
        rintro e w14 ⟨rfl, hb⟩
        replace OV := OV.all hb
        replace OA := OA.all hb
        replace OB := OB.all hb
        replace OC := OC.all hb
        replace OD := OD.all hb
        replace R := R.all hb HB.size
        replace HB := HB.trans (hb.mono HB.size)
        clear hb
        clear OC OD
        cases tb
        case false =>
          clear HUS
          go_wp2
          go_loopw [27, 26] (fun ii ss wr => ii = .int .i64 0 ∧ ss = .int .i64 0 ∧ wr = w14) (fun _ _ _ => 0)
          case atStart => exact ⟨rfl, rfl, rfl⟩
          case round =>
            obtain ⟨rfl, rfl, hw⟩ := hrel
            subst hw
            by_cases hus : (0 : Int) < (us.length : Int)
            · skip
              go_wp2_with fail
              refine (hFi.out _ _ _ OV.rd).mono ?_
              rintro e w15 ⟨rfl, hb⟩
              replace OV := OV.all hb
              replace OA := OA.all hb
              replace OB := OB.all hb
              replace R := R.all hb HB.size
              replace HB := HB.trans (hb.mono HB.size)
              clear hb
              go_wp2_with fail
              refine (hFs.out _ _ _ OV.rd).mono ?_
              rintro e w16 ⟨rfl, hb⟩
              replace OV := OV.all hb
              replace OA := OA.all hb
              replace OB := OB.all hb
              replace R := R.all hb HB.size
              replace HB := HB.trans (hb.mono HB.size)
              clear hb
              clear hFi hFs
              go_wp2
              go_ret
              exact ⟨ret_bool (by simp), HB⟩
            · skip
              go_wp2_with fail
              refine (hFi.out _ _ _ OV.rd).mono ?_
              rintro e w15 ⟨rfl, hb⟩
              replace OV := OV.all hb
              replace OA := OA.all hb
              replace OB := OB.all hb
              replace R := R.all hb HB.size
              replace HB := HB.trans (hb.mono HB.size)
              clear hb
              go_wp2_with fail
              refine (hFs.out _ _ _ OV.rd).mono ?_
              rintro e w16 ⟨rfl, hb⟩
              replace OV := OV.all hb
              replace OA := OA.all hb
              replace OB := OB.all hb
              replace R := R.all hb HB.size
              replace HB := HB.trans (hb.mono HB.size)
              clear hb
              clear hFi hFs
              go_wp2
              go_ret
              exact ⟨ret_bool (by simp), HB⟩
        case true =>
          obtain ⟨hh1, hh2, hh3, hh4, hh5⟩ := HUS.out rfl
          have H1 := Lib.hid hh1
          have H2 := Lib.hid hh2
          have H3 := Lib.hid hh3
          have H4 := Lib.hid hh4
          clear HUS hh1 hh2 hh3 hh4
          go_wp2
          go_loopw [27, 26] (fun ii ss wr => ∃ k m : Nat, k ≤ us.length ∧ ii = .int .i64 k ∧ ss = .int .i64 m ∧ m ≤ k ∧ Hid ((loomZ (us.take k)).length = m) ∧ wr = w14) (fun ii _ _ => us.length - (intOf ii).toNat)
          case atStart => exact ⟨0, 0, Nat.zero_le _, rfl, rfl, Nat.le_refl _, Lib.hid (by simp [loomZ]), rfl⟩
          case round =>
            obtain ⟨k, m, hk, rfl, rfl, hmk, HM, hw⟩ := hrel
            subst hw
            by_cases hlt : k < us.length
            · have hrv := OV.rd
              obtain ⟨b, off, a, rfl, _, _, HX, _, _, _, _, hc4⟩ := WeaverR_at (F := weaverF) rfl (fun _ => rfl) (fun _ => rfl) hrv hlt
              have h0 := H2.out k a HX.out
              have HC := Lib.hid (loomZ_count HX.out)
              by_cases h4 : a.f4 = 0
              · have HN := Lib.hid (show (loomZ (us.take (k + 1))).length = m by rw [HC.out, if_pos h4, HM.out]; rfl)
                have f4 : decide (0 < a.f4) = false := decide_eq_false (by omega)
                have f5 : ¬ 0 < a.f4 := by omega
                clear h4 h0
                go_wp2
                go_roundw
                case rel => exact ⟨k + 1, m, by omega, by go_num, rfl, by omega, HN, by first | rfl | trivial⟩
                case measure => simp [intOf]; omega
              · have HN := Lib.hid (show (loomZ (us.take (k + 1))).length = m + 1 by rw [HC.out, if_neg h4, HM.out])
                have f4 : decide (0 < a.f4) = true := decide_eq_true (by omega)
                have f5 : 0 < a.f4 := by omega
                have HH := Lib.hid (decide_eq_true (H1.out k a HX.out h4))
                clear h4 h0
                have hra := OA.rd
                go_wp2_with fail
                refine (rHas_eq _ _ _ _ lu a.f4 _ true hra HH).mono ?_
                rintro e w' ⟨rfl, rfl⟩
                go_wp2
                go_roundw
                case rel => exact ⟨k + 1, m + 1, by omega, by go_num, by go_num, by omega, HN, by first | rfl | trivial⟩
                case measure => simp [intOf]; omega
            · obtain rfl : k = us.length := by omega
              have HS := Lib.hid (show sumI se = (m : Int) by rw [H3.out, ← HM.out, List.take_length])
              clear H1 H2 H3 HM
              go_wp2_with fail
              refine (hFi.out _ _ _ OV.rd).mono ?_
              rintro e w15 ⟨rfl, hb⟩
              replace OV := OV.all hb
              replace OA := OA.all hb
              replace OB := OB.all hb
              replace R := R.all hb HB.size
              replace HB := HB.trans (hb.mono HB.size)
              clear hb
              go_wp2_with fail
              refine (hFs.out _ _ _ OV.rd).mono ?_
              rintro e w16 ⟨rfl, hb⟩
              replace OV := OV.all hb
              replace OA := OA.all hb
              replace OB := OB.all hb
              replace R := R.all hb HB.size
              replace HB := HB.trans (hb.mono HB.size)
              clear hb
              clear hFi hFs
              have hrb := OB.rd
              go_wp2_with fail
              refine (rSum_eq _ _ _ _ se _ (m : Int) hrb hh5 H4 HS).mono ?_
              rintro e w' ⟨rfl, rfl⟩
              go_wp2
              go_ret
              exact ⟨ret_bool (by simp), HB⟩
    · have F3 : decide (0 < d) = false := decide_eq_false hdp
      clear h5 h6 M1 HC
      go_wp2_with fail
      refine (drawSeatWeaver_any A n c w.heap.size _ R HB.size hn).mono ?_
      rintro e w5 ⟨A3, c3, ls, id, at_, rfl, hll, hid, hat, own, hb⟩
      replace OX := OX.all hb
      replace R := R.all hb HB.size
      have OL := own.mono HB.size
      clear own
      replace HB := HB.trans (hb.mono HB.size)
      clear hb
      clear E1 F1 F2 F3
      clear OX
      obtain ⟨sz, hsz⟩ : ∃ z, (seat11 ls id at_).1 = z := ⟨_, rfl⟩
      obtain ⟨sb, hsb⟩ : ∃ z, (seat11 ls id at_).2 = z := ⟨_, rfl⟩
      have hSi : Hid (∀ (w : World) (A : Option Addr) (c : Nat), RdF weaverF w w.heap.size A ls.length c ls → Calls Try.prog 11 #[.slice A ls.length c, .int .i64 id, .int .i64 at_] w (OutF weaverF w sz sb)) := Lib.hid fun w A c h => (by have := implSeatWeaver_any A _ c _ ls id at_ w h (Nat.le_refl _) hat; rw [hsz, hsb] at this; exact this)
      have hSs : Hid (∀ (w : World) (A : Option Addr) (c : Nat), RdF weaverF w w.heap.size A ls.length c ls → Calls Try.prog 12 #[.slice A ls.length c, .int .i64 id, .int .i64 at_] w (OutF weaverF w sz sb)) := Lib.hid fun w A c h => (by have := specSeatWeaver_any A _ c _ ls id at_ w h (Nat.le_refl _) hat; rw [hsz, hsb] at this; exact this)
      have HSV : Hid (sb = true → weaversB sz = true) := Lib.hid fun ho => seat_valid (xs := ls) (id := id) (loom := at_) (by rw [← hsz, ← ho, ← hsb])
      clear hsz hsb hll hid
      go_wp2_with fail
      refine (hSi.out _ _ _ OL.rd).mono ?_
      rintro e w6 ⟨A6, c6, rfl, own, hb⟩
      replace OL := OL.all hb
      replace R := R.all hb HB.size
      have OT := own.mono HB.size
      clear own
      replace HB := HB.trans (hb.mono HB.size)
      clear hb
      go_wp2_with fail
      refine (hSs.out _ _ _ OL.rd).mono ?_
      rintro e w7 ⟨A7, c7, rfl, own, hb⟩
      replace OL := OL.all hb
      replace OT := OT.all hb
      replace R := R.all hb HB.size
      have OU := own.mono HB.size
      clear own
      replace HB := HB.trans (hb.mono HB.size)
      clear hb
      clear hSi hSs hat
      clear OL
      go_wp2_with fail
      refine (rWeavers_same _ _ _ _ _ _ _ _ sz _ OT.rd OU.rd).mono ?_
      rintro e w8 ⟨rfl, hb⟩
      replace OT := OT.all hb
      replace OU := OU.all hb
      replace R := R.all hb HB.size
      replace HB := HB.trans (hb.mono HB.size)
      clear hb
      clear OU
      cases sb
      case false =>
        clear HSV
        clear OT
        go_wp2_with fail
        refine (drawLoomsUsed_any A n c w.heap.size _ R HB.size hn).mono ?_
        rintro e w9 ⟨A4, c4, us, rfl, hul, own, hb⟩
        replace R := R.all hb HB.size
        have OV := own.mono HB.size
        clear own
        replace HB := HB.trans (hb.mono HB.size)
        clear hb
        obtain ⟨lu, hlu⟩ : ∃ z, (used11 us).1 = z := ⟨_, rfl⟩
        obtain ⟨se, hse⟩ : ∃ z, (used11 us).2.1 = z := ⟨_, rfl⟩
        obtain ⟨tb, htb⟩ : ∃ z, (used11 us).2.2 = z := ⟨_, rfl⟩
        obtain ⟨fi, hfi⟩ : ∃ z, (fast11 us).1 = z := ⟨_, rfl⟩
        obtain ⟨fb, hfb⟩ : ∃ z, (fast11 us).2 = z := ⟨_, rfl⟩
        have hUi : Hid (∀ (w : World) (A : Option Addr) (c : Nat), RdF weaverF w w.heap.size A us.length c us → Calls Try.prog 16 #[.slice A us.length c] w (OutInts2 w lu se tb)) := Lib.hid fun w A c h => (by have := implLoomsUsed_any A _ c _ us w h (Nat.le_refl _); rw [hlu, hse, htb] at this; exact this)
        have hUs : Hid (∀ (w : World) (A : Option Addr) (c : Nat), RdF weaverF w w.heap.size A us.length c us → Calls Try.prog 17 #[.slice A us.length c] w (OutInts2 w lu se tb)) := Lib.hid fun w A c h => (by have := specLoomsUsed_any A _ c _ us w h (Nat.le_refl _); rw [hlu, hse, htb] at this; exact this)
        have hFi : Hid (∀ (w : World) (A : Option Addr) (c : Nat), RdF weaverF w w.heap.size A us.length c us → Calls Try.prog 20 #[.slice A us.length c] w (Out w (.tuple #[.int .i64 fi, .bool fb]))) := Lib.hid fun w A c h => (by have := implFastestFree_any A _ c _ us w h (Nat.le_refl _); rw [hfi, hfb] at this; exact this)
        have hFs : Hid (∀ (w : World) (A : Option Addr) (c : Nat), RdF weaverF w w.heap.size A us.length c us → Calls Try.prog 21 #[.slice A us.length c] w (Out w (.tuple #[.int .i64 fi, .bool fb]))) := Lib.hid fun w A c h => (by have := specFastestFree_any A _ c _ us w h (Nat.le_refl _); rw [hfi, hfb] at this; exact this)
        have HUS : Hid (tb = true → (∀ (k : Nat) (a : WeaverR), us[k]? = some a → a.f4 ≠ 0 → a.f4 ∈ lu) ∧ (∀ (k : Nat) (a : WeaverR), us[k]? = some a → 0 ≤ a.f4) ∧ sumI se = ((loomZ us).length : Nat) ∧ (∀ x ∈ se, 0 ≤ x ∧ x ≤ 1000000) ∧ se.length ≤ 1000) := Lib.hid fun ho => by
          have hg : weaversB us = true := by
            rw [← htb] at ho
            unfold used11 at ho
            split at ho
            · assumption
            · cases ho
          have he : used11 us = (looms11 us, seatL us (looms11 us), true) := if_pos hg
          rw [he] at hlu hse
          subst hlu hse
          refine ⟨fun k a ha h0 => loom_has ha h0, fun k a ha => (weaver_of (weavers_at hg ha)).2.2.2.2.1, looms_seats us, seatL_bd us (by omega) _, ?_⟩
          have h1 := looms11_len us
          have h2 := seatL_len us (looms11 us)
          show (seatL us (looms11 us)).length ≤ 1000
          omega
        clear hlu hse htb hfi hfb
        go_wp2_with fail
        refine (hUi.out _ _ _ OV.rd).mono ?_
        rintro e w10 ⟨A8, c8, A9, c9, rfl, own, own2, hdis, hb⟩
        replace OV := OV.all hb
        replace R := R.all hb HB.size
        have OA := own.mono HB.size
        clear own
        have OB := own2.mono HB.size
        clear own2
        replace HB := HB.trans (hb.mono HB.size)
        clear hb
        clear hdis
        go_wp2_with fail
        refine (hUs.out _ _ _ OV.rd).mono ?_
        rintro e w11 ⟨A10, c10, A11, c11, rfl, own, own2, hdis, hb⟩
        replace OV := OV.all hb
        replace OA := OA.all hb
        replace OB := OB.all hb
        replace R := R.all hb HB.size
        have OC := own.mono HB.size
        clear own
        have OD := own2.mono HB.size
        clear own2
        replace HB := HB.trans (hb.mono HB.size)
        clear hb
        clear hdis hUi hUs
        go_wp2_with fail
        refine (rInts_low _ _ _ _ _ _ _ _ lu _ OA.rd OC.rd).mono ?_
        rintro e w12 ⟨rfl, hb⟩
        replace OV := OV.all hb
        replace OA := OA.all hb
        replace OB := OB.all hb
        replace OC := OC.all hb
        replace OD := OD.all hb
        replace R := R.all hb HB.size
        replace HB := HB.trans (hb.mono HB.size)
        clear hb
        go_wp2_with fail
        refine (rInts_low _ _ _ _ _ _ _ _ se _ OB.rd OD.rd).mono ?_
        rintro e w13 ⟨rfl, hb⟩
        replace OV := OV.all hb
        replace OA := OA.all hb
        replace OB := OB.all hb
        replace OC := OC.all hb
        replace OD := OD.all hb
        replace R := R.all hb HB.size
        replace HB := HB.trans (hb.mono HB.size)
        clear hb
        clear OC OD
        cases tb
        case false =>
          clear HUS
          go_wp2
          go_loopw [27, 26] (fun ii ss wr => ii = .int .i64 0 ∧ ss = .int .i64 0 ∧ wr = w13) (fun _ _ _ => 0)
          case atStart => exact ⟨rfl, rfl, rfl⟩
          case round =>
            obtain ⟨rfl, rfl, hw⟩ := hrel
            subst hw
            by_cases hus : (0 : Int) < (us.length : Int)
            · skip
              go_wp2_with fail
              refine (hFi.out _ _ _ OV.rd).mono ?_
              rintro e w14 ⟨rfl, hb⟩
              replace OV := OV.all hb
              replace OA := OA.all hb
              replace OB := OB.all hb
              replace R := R.all hb HB.size
              replace HB := HB.trans (hb.mono HB.size)
              clear hb
              go_wp2_with fail
              refine (hFs.out _ _ _ OV.rd).mono ?_
              rintro e w15 ⟨rfl, hb⟩
              replace OV := OV.all hb
              replace OA := OA.all hb
              replace OB := OB.all hb
              replace R := R.all hb HB.size
              replace HB := HB.trans (hb.mono HB.size)
              clear hb
              clear hFi hFs
              go_wp2
              go_ret
              exact ⟨ret_bool (by simp), HB⟩
            · skip
              go_wp2_with fail
              refine (hFi.out _ _ _ OV.rd).mono ?_
              rintro e w14 ⟨rfl, hb⟩
              replace OV := OV.all hb
              replace OA := OA.all hb
              replace OB := OB.all hb
              replace R := R.all hb HB.size
              replace HB := HB.trans (hb.mono HB.size)
              clear hb
              go_wp2_with fail
              refine (hFs.out _ _ _ OV.rd).mono ?_
              rintro e w15 ⟨rfl, hb⟩
              replace OV := OV.all hb
              replace OA := OA.all hb
              replace OB := OB.all hb
              replace R := R.all hb HB.size
              replace HB := HB.trans (hb.mono HB.size)
              clear hb
              clear hFi hFs
              go_wp2
              go_ret
              exact ⟨ret_bool (by simp), HB⟩
        case true =>
          obtain ⟨hh1, hh2, hh3, hh4, hh5⟩ := HUS.out rfl
          have H1 := Lib.hid hh1
          have H2 := Lib.hid hh2
          have H3 := Lib.hid hh3
          have H4 := Lib.hid hh4
          clear HUS hh1 hh2 hh3 hh4
          go_wp2
          go_loopw [27, 26] (fun ii ss wr => ∃ k m : Nat, k ≤ us.length ∧ ii = .int .i64 k ∧ ss = .int .i64 m ∧ m ≤ k ∧ Hid ((loomZ (us.take k)).length = m) ∧ wr = w13) (fun ii _ _ => us.length - (intOf ii).toNat)
          case atStart => exact ⟨0, 0, Nat.zero_le _, rfl, rfl, Nat.le_refl _, Lib.hid (by simp [loomZ]), rfl⟩
          case round =>
            obtain ⟨k, m, hk, rfl, rfl, hmk, HM, hw⟩ := hrel
            subst hw
            by_cases hlt : k < us.length
            · have hrv := OV.rd
              obtain ⟨b, off, a, rfl, _, _, HX, _, _, _, _, hc4⟩ := WeaverR_at (F := weaverF) rfl (fun _ => rfl) (fun _ => rfl) hrv hlt
              have h0 := H2.out k a HX.out
              have HC := Lib.hid (loomZ_count HX.out)
              by_cases h4 : a.f4 = 0
              · have HN := Lib.hid (show (loomZ (us.take (k + 1))).length = m by rw [HC.out, if_pos h4, HM.out]; rfl)
                have f4 : decide (0 < a.f4) = false := decide_eq_false (by omega)
                have f5 : ¬ 0 < a.f4 := by omega
                clear h4 h0
                go_wp2
                go_roundw
                case rel => exact ⟨k + 1, m, by omega, by go_num, rfl, by omega, HN, by first | rfl | trivial⟩
                case measure => simp [intOf]; omega
              · have HN := Lib.hid (show (loomZ (us.take (k + 1))).length = m + 1 by rw [HC.out, if_neg h4, HM.out])
                have f4 : decide (0 < a.f4) = true := decide_eq_true (by omega)
                have f5 : 0 < a.f4 := by omega
                have HH := Lib.hid (decide_eq_true (H1.out k a HX.out h4))
                clear h4 h0
                have hra := OA.rd
                go_wp2_with fail
                refine (rHas_eq _ _ _ _ lu a.f4 _ true hra HH).mono ?_
                rintro e w' ⟨rfl, rfl⟩
                go_wp2
                go_roundw
                case rel => exact ⟨k + 1, m + 1, by omega, by go_num, by go_num, by omega, HN, by first | rfl | trivial⟩
                case measure => simp [intOf]; omega
            · obtain rfl : k = us.length := by omega
              have HS := Lib.hid (show sumI se = (m : Int) by rw [H3.out, ← HM.out, List.take_length])
              clear H1 H2 H3 HM
              go_wp2_with fail
              refine (hFi.out _ _ _ OV.rd).mono ?_
              rintro e w14 ⟨rfl, hb⟩
              replace OV := OV.all hb
              replace OA := OA.all hb
              replace OB := OB.all hb
              replace R := R.all hb HB.size
              replace HB := HB.trans (hb.mono HB.size)
              clear hb
              go_wp2_with fail
              refine (hFs.out _ _ _ OV.rd).mono ?_
              rintro e w15 ⟨rfl, hb⟩
              replace OV := OV.all hb
              replace OA := OA.all hb
              replace OB := OB.all hb
              replace R := R.all hb HB.size
              replace HB := HB.trans (hb.mono HB.size)
              clear hb
              clear hFi hFs
              have hrb := OB.rd
              go_wp2_with fail
              refine (rSum_eq _ _ _ _ se _ (m : Int) hrb hh5 H4 HS).mono ?_
              rintro e w' ⟨rfl, rfl⟩
              go_wp2
              go_ret
              exact ⟨ret_bool (by simp), HB⟩
      case true =>
        have HV := Lib.hid (HSV.out rfl)
        clear HSV
        go_wp2_with fail
        refine (implAreWeavers_eq _ _ _ _ sz _ true OT.rd (Nat.le_refl _) HV.out).mono ?_
        rintro e w9 ⟨rfl, hb⟩
        replace OT := OT.all hb
        replace R := R.all hb HB.size
        replace HB := HB.trans (hb.mono HB.size)
        clear hb
        clear HV
        clear OT
        go_wp2_with fail
        refine (drawLoomsUsed_any A n c w.heap.size _ R HB.size hn).mono ?_
        rintro e w10 ⟨A4, c4, us, rfl, hul, own, hb⟩
        replace R := R.all hb HB.size
        have OV := own.mono HB.size
        clear own
        replace HB := HB.trans (hb.mono HB.size)
        clear hb
        obtain ⟨lu, hlu⟩ : ∃ z, (used11 us).1 = z := ⟨_, rfl⟩
        obtain ⟨se, hse⟩ : ∃ z, (used11 us).2.1 = z := ⟨_, rfl⟩
        obtain ⟨tb, htb⟩ : ∃ z, (used11 us).2.2 = z := ⟨_, rfl⟩
        obtain ⟨fi, hfi⟩ : ∃ z, (fast11 us).1 = z := ⟨_, rfl⟩
        obtain ⟨fb, hfb⟩ : ∃ z, (fast11 us).2 = z := ⟨_, rfl⟩
        have hUi : Hid (∀ (w : World) (A : Option Addr) (c : Nat), RdF weaverF w w.heap.size A us.length c us → Calls Try.prog 16 #[.slice A us.length c] w (OutInts2 w lu se tb)) := Lib.hid fun w A c h => (by have := implLoomsUsed_any A _ c _ us w h (Nat.le_refl _); rw [hlu, hse, htb] at this; exact this)
        have hUs : Hid (∀ (w : World) (A : Option Addr) (c : Nat), RdF weaverF w w.heap.size A us.length c us → Calls Try.prog 17 #[.slice A us.length c] w (OutInts2 w lu se tb)) := Lib.hid fun w A c h => (by have := specLoomsUsed_any A _ c _ us w h (Nat.le_refl _); rw [hlu, hse, htb] at this; exact this)
        have hFi : Hid (∀ (w : World) (A : Option Addr) (c : Nat), RdF weaverF w w.heap.size A us.length c us → Calls Try.prog 20 #[.slice A us.length c] w (Out w (.tuple #[.int .i64 fi, .bool fb]))) := Lib.hid fun w A c h => (by have := implFastestFree_any A _ c _ us w h (Nat.le_refl _); rw [hfi, hfb] at this; exact this)
        have hFs : Hid (∀ (w : World) (A : Option Addr) (c : Nat), RdF weaverF w w.heap.size A us.length c us → Calls Try.prog 21 #[.slice A us.length c] w (Out w (.tuple #[.int .i64 fi, .bool fb]))) := Lib.hid fun w A c h => (by have := specFastestFree_any A _ c _ us w h (Nat.le_refl _); rw [hfi, hfb] at this; exact this)
        have HUS : Hid (tb = true → (∀ (k : Nat) (a : WeaverR), us[k]? = some a → a.f4 ≠ 0 → a.f4 ∈ lu) ∧ (∀ (k : Nat) (a : WeaverR), us[k]? = some a → 0 ≤ a.f4) ∧ sumI se = ((loomZ us).length : Nat) ∧ (∀ x ∈ se, 0 ≤ x ∧ x ≤ 1000000) ∧ se.length ≤ 1000) := Lib.hid fun ho => by
          have hg : weaversB us = true := by
            rw [← htb] at ho
            unfold used11 at ho
            split at ho
            · assumption
            · cases ho
          have he : used11 us = (looms11 us, seatL us (looms11 us), true) := if_pos hg
          rw [he] at hlu hse
          subst hlu hse
          refine ⟨fun k a ha h0 => loom_has ha h0, fun k a ha => (weaver_of (weavers_at hg ha)).2.2.2.2.1, looms_seats us, seatL_bd us (by omega) _, ?_⟩
          have h1 := looms11_len us
          have h2 := seatL_len us (looms11 us)
          show (seatL us (looms11 us)).length ≤ 1000
          omega
        clear hlu hse htb hfi hfb
        go_wp2_with fail
        refine (hUi.out _ _ _ OV.rd).mono ?_
        rintro e w11 ⟨A8, c8, A9, c9, rfl, own, own2, hdis, hb⟩
        replace OV := OV.all hb
        replace R := R.all hb HB.size
        have OA := own.mono HB.size
        clear own
        have OB := own2.mono HB.size
        clear own2
        replace HB := HB.trans (hb.mono HB.size)
        clear hb
        clear hdis
        go_wp2_with fail
        refine (hUs.out _ _ _ OV.rd).mono ?_
        rintro e w12 ⟨A10, c10, A11, c11, rfl, own, own2, hdis, hb⟩
        replace OV := OV.all hb
        replace OA := OA.all hb
        replace OB := OB.all hb
        replace R := R.all hb HB.size
        have OC := own.mono HB.size
        clear own
        have OD := own2.mono HB.size
        clear own2
        replace HB := HB.trans (hb.mono HB.size)
        clear hb
        clear hdis hUi hUs
        go_wp2_with fail
        refine (rInts_low _ _ _ _ _ _ _ _ lu _ OA.rd OC.rd).mono ?_
        rintro e w13 ⟨rfl, hb⟩
        replace OV := OV.all hb
        replace OA := OA.all hb
        replace OB := OB.all hb
        replace OC := OC.all hb
        replace OD := OD.all hb
        replace R := R.all hb HB.size
        replace HB := HB.trans (hb.mono HB.size)
        clear hb
        go_wp2_with fail
        refine (rInts_low _ _ _ _ _ _ _ _ se _ OB.rd OD.rd).mono ?_
        rintro e w14 ⟨rfl, hb⟩
        replace OV := OV.all hb
        replace OA := OA.all hb
        replace OB := OB.all hb
        replace OC := OC.all hb
        replace OD := OD.all hb
        replace R := R.all hb HB.size
        replace HB := HB.trans (hb.mono HB.size)
        clear hb
        clear OC OD
        cases tb
        case false =>
          clear HUS
          go_wp2
          go_loopw [27, 26] (fun ii ss wr => ii = .int .i64 0 ∧ ss = .int .i64 0 ∧ wr = w14) (fun _ _ _ => 0)
          case atStart => exact ⟨rfl, rfl, rfl⟩
          case round =>
            obtain ⟨rfl, rfl, hw⟩ := hrel
            subst hw
            by_cases hus : (0 : Int) < (us.length : Int)
            · skip
              go_wp2_with fail
              refine (hFi.out _ _ _ OV.rd).mono ?_
              rintro e w15 ⟨rfl, hb⟩
              replace OV := OV.all hb
              replace OA := OA.all hb
              replace OB := OB.all hb
              replace R := R.all hb HB.size
              replace HB := HB.trans (hb.mono HB.size)
              clear hb
              go_wp2_with fail
              refine (hFs.out _ _ _ OV.rd).mono ?_
              rintro e w16 ⟨rfl, hb⟩
              replace OV := OV.all hb
              replace OA := OA.all hb
              replace OB := OB.all hb
              replace R := R.all hb HB.size
              replace HB := HB.trans (hb.mono HB.size)
              clear hb
              clear hFi hFs
              go_wp2
              go_ret
              exact ⟨ret_bool (by simp), HB⟩
            · skip
              go_wp2_with fail
              refine (hFi.out _ _ _ OV.rd).mono ?_
              rintro e w15 ⟨rfl, hb⟩
              replace OV := OV.all hb
              replace OA := OA.all hb
              replace OB := OB.all hb
              replace R := R.all hb HB.size
              replace HB := HB.trans (hb.mono HB.size)
              clear hb
              go_wp2_with fail
              refine (hFs.out _ _ _ OV.rd).mono ?_
              rintro e w16 ⟨rfl, hb⟩
              replace OV := OV.all hb
              replace OA := OA.all hb
              replace OB := OB.all hb
              replace R := R.all hb HB.size
              replace HB := HB.trans (hb.mono HB.size)
              clear hb
              clear hFi hFs
              go_wp2
              go_ret
              exact ⟨ret_bool (by simp), HB⟩
        case true =>
          obtain ⟨hh1, hh2, hh3, hh4, hh5⟩ := HUS.out rfl
          have H1 := Lib.hid hh1
          have H2 := Lib.hid hh2
          have H3 := Lib.hid hh3
          have H4 := Lib.hid hh4
          clear HUS hh1 hh2 hh3 hh4
          go_wp2
          go_loopw [27, 26] (fun ii ss wr => ∃ k m : Nat, k ≤ us.length ∧ ii = .int .i64 k ∧ ss = .int .i64 m ∧ m ≤ k ∧ Hid ((loomZ (us.take k)).length = m) ∧ wr = w14) (fun ii _ _ => us.length - (intOf ii).toNat)
          case atStart => exact ⟨0, 0, Nat.zero_le _, rfl, rfl, Nat.le_refl _, Lib.hid (by simp [loomZ]), rfl⟩
          case round =>
            obtain ⟨k, m, hk, rfl, rfl, hmk, HM, hw⟩ := hrel
            subst hw
            by_cases hlt : k < us.length
            · have hrv := OV.rd
              obtain ⟨b, off, a, rfl, _, _, HX, _, _, _, _, hc4⟩ := WeaverR_at (F := weaverF) rfl (fun _ => rfl) (fun _ => rfl) hrv hlt
              have h0 := H2.out k a HX.out
              have HC := Lib.hid (loomZ_count HX.out)
              by_cases h4 : a.f4 = 0
              · have HN := Lib.hid (show (loomZ (us.take (k + 1))).length = m by rw [HC.out, if_pos h4, HM.out]; rfl)
                have f4 : decide (0 < a.f4) = false := decide_eq_false (by omega)
                have f5 : ¬ 0 < a.f4 := by omega
                clear h4 h0
                go_wp2
                go_roundw
                case rel => exact ⟨k + 1, m, by omega, by go_num, rfl, by omega, HN, by first | rfl | trivial⟩
                case measure => simp [intOf]; omega
              · have HN := Lib.hid (show (loomZ (us.take (k + 1))).length = m + 1 by rw [HC.out, if_neg h4, HM.out])
                have f4 : decide (0 < a.f4) = true := decide_eq_true (by omega)
                have f5 : 0 < a.f4 := by omega
                have HH := Lib.hid (decide_eq_true (H1.out k a HX.out h4))
                clear h4 h0
                have hra := OA.rd
                go_wp2_with fail
                refine (rHas_eq _ _ _ _ lu a.f4 _ true hra HH).mono ?_
                rintro e w' ⟨rfl, rfl⟩
                go_wp2
                go_roundw
                case rel => exact ⟨k + 1, m + 1, by omega, by go_num, by go_num, by omega, HN, by first | rfl | trivial⟩
                case measure => simp [intOf]; omega
            · obtain rfl : k = us.length := by omega
              have HS := Lib.hid (show sumI se = (m : Int) by rw [H3.out, ← HM.out, List.take_length])
              clear H1 H2 H3 HM
              go_wp2_with fail
              refine (hFi.out _ _ _ OV.rd).mono ?_
              rintro e w15 ⟨rfl, hb⟩
              replace OV := OV.all hb
              replace OA := OA.all hb
              replace OB := OB.all hb
              replace R := R.all hb HB.size
              replace HB := HB.trans (hb.mono HB.size)
              clear hb
              go_wp2_with fail
              refine (hFs.out _ _ _ OV.rd).mono ?_
              rintro e w16 ⟨rfl, hb⟩
              replace OV := OV.all hb
              replace OA := OA.all hb
              replace OB := OB.all hb
              replace R := R.all hb HB.size
              replace HB := HB.trans (hb.mono HB.size)
              clear hb
              clear hFi hFs
              have hrb := OB.rd
              go_wp2_with fail
              refine (rSum_eq _ _ _ _ se _ (m : Int) hrb hh5 H4 HS).mono ?_
              rintro e w' ⟨rfl, rfl⟩
              go_wp2
              go_ret
              exact ⟨ret_bool (by simp), HB⟩
end Go.Proofs.Ytanfblpibomfaaa
