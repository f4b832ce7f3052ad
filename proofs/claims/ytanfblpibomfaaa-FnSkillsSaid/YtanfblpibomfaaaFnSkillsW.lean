/- The walk of FnSkills. No condition. -/
import Derived.Test.YtanfblpibomfaaaDraws11c
import Derived.Test.YtanfblpibomfaaaWords11
import Derived.Test.YtanfblpibomfaaaSkillsFn
import Derived.Test.YtanfblpibomfaaaLeast11
import Derived.Test.YtanfblpibomfaaaTeach11S
import Derived.Deep.RegionHeld3
namespace Go.Proofs.Ytanfblpibomfaaa
open Go.RowKit

theorem specIsWeaver_eq (s : WeaverR) (w : World) (hm : s.f1.size ≤ maxLen) (b : Bool) (h : weaverB s = b) : Calls Try.prog 33 #[.agg #[.int .i64 s.f0, .string s.f1, .int .i64 s.f2, .int .i64 s.f3, .int .i64 s.f4]] w (Tells w b) := h ▸ specIsWeaver_any s w hm
set_option maxRecDepth 100000 in
set_option maxHeartbeats 16000000 in
theorem fnSkills_walk (w : World) (A : Option Addr) (n c : Nat) (R : RdB w w.heap.size A n c) : Calls Try.prog 4 #[.slice A n c] w fun e w' => e = .returned (.bool true) ∧ Below w.heap.size w w' := by
  have hcap := R.cap
  have hmax := R.max
  unfold maxLen at hmax
  have HB := Below.refl w.heap.size w
  by_cases hn : n ≤ 65536
  rotate_left
  · go_enter Try.func4, Try.ntmps4
    go_wp2_with fail
    refine (rBig_eq A n c _ (by omega) true (by simp; omega)).mono ?_
    rintro e w' ⟨rfl, rfl⟩
    go_wp2
    go_ret
    exact ⟨rfl, HB⟩
  go_enter Try.func4, Try.ntmps4
  go_wp2_with fail
  refine (rBig_eq A n c _ (by omega) false (by simp; omega)).mono ?_
  rintro e w' ⟨rfl, rfl⟩
  go_wp2_with fail
  refine (drawFewestFor_any A n c w.heap.size _ R HB.size hn).mono ?_
  rintro e w1 ⟨A2, c2, xs, nd, rfl, hxl, hnd, own, hb⟩
  replace R := R.all hb HB.size
  have OX := own.mono HB.size
  clear own
  replace HB := HB.trans (hb.mono HB.size)
  clear hb
  obtain ⟨few, hfew⟩ : ∃ z, (fewest11 xs nd).1 = z := ⟨_, rfl⟩
  obtain ⟨ok, hok⟩ : ∃ z, (fewest11 xs nd).2 = z := ⟨_, rfl⟩
  obtain ⟨wi, hwi⟩ : ∃ z, (with11 xs nd).1 = z := ⟨_, rfl⟩
  obtain ⟨wf, hwf⟩ : ∃ z, (with11 xs nd).2 = z := ⟨_, rfl⟩
  have hEi : Hid (∀ (w : World) (A : Option Addr) (c : Nat), RdF weaverF w w.heap.size A xs.length c xs → Calls Try.prog 24 #[.slice A xs.length c, .int .i64 nd] w (OutInts w few ok)) := Lib.hid fun w A c h => (by have := implFewestFor_any A _ c _ xs nd w h (Nat.le_refl _); rw [hfew, hok] at this; exact this)
  have hEs : Hid (∀ (w : World) (A : Option Addr) (c : Nat), RdF weaverF w w.heap.size A xs.length c xs → Calls Try.prog 25 #[.slice A xs.length c, .int .i64 nd] w (OutInts w few ok)) := Lib.hid fun w A c h => (by have := specFewestFor_any A _ c _ xs nd w h (Nat.le_refl _); rw [hfew, hok] at this; exact this)
  have hWi : Hid (∀ (w : World) (A : Option Addr) (c : Nat), RdF weaverF w w.heap.size A xs.length c xs → Calls Try.prog 26 #[.slice A xs.length c, .int .i64 nd] w (OutInts w wi wf)) := Lib.hid fun w A c h => (by have := implWithSkills_any A _ c _ xs nd w h (Nat.le_refl _); rw [hwi, hwf] at this; exact this)
  have hWs : Hid (∀ (w : World) (A : Option Addr) (c : Nat), RdF weaverF w w.heap.size A xs.length c xs → Calls Try.prog 27 #[.slice A xs.length c, .int .i64 nd] w (OutInts w wi wf)) := Lib.hid fun w A c h => (by have := specWithSkills_any A _ c _ xs nd w h (Nat.le_refl _); rw [hwi, hwf] at this; exact this)
  have HMN : Hid (ok = true → hasB (orP (inP few) xs 0) nd = true ∧ (∀ (k : Nat) (y : Int), few[k]? = some y → hasB (orP (butP few y) xs 0) nd = false) ∧ wf = true ∧ (wi ≠ [] → few.length = 1) ∧ Fast xs ∧ In15 nd ∧ few.length ≤ 11) := Lib.hid fun ho => by
    obtain ⟨h1, h2, h3, h4, h5, h6, h7⟩ := fewest_all (xs := xs) (need := nd) (F := few) (by rw [← hfew, ← ho, ← hok])
    rw [h3] at hwi hwf
    refine ⟨h1, h2, hwf.symm, ?_, h5, h6, h7⟩
    rw [← hwi]
    exact h4
  clear hfew hok hwi hwf hnd
  go_wp2_with fail
  refine (hEi.out _ _ _ OX.rd).mono ?_
  rintro e w2 ⟨A3, c3, rfl, own, hb⟩
  replace OX := OX.all hb
  replace R := R.all hb HB.size
  have OF := own.mono HB.size
  clear own
  replace HB := HB.trans (hb.mono HB.size)
  clear hb
  go_wp2_with fail
  refine (hEs.out _ _ _ OX.rd).mono ?_
  rintro e w3 ⟨A4, c4, rfl, own, hb⟩
  replace OX := OX.all hb
  replace OF := OF.all hb
  replace R := R.all hb HB.size
  have OG := own.mono HB.size
  clear own
  replace HB := HB.trans (hb.mono HB.size)
  clear hb
  clear hEi hEs
  go_wp2_with fail
  refine (rInts_low _ _ _ _ _ _ _ _ few _ OF.rd OG.rd).mono ?_
  rintro e w4 ⟨rfl, hb⟩
  replace OX := OX.all hb
  replace OF := OF.all hb
  replace OG := OG.all hb
  replace R := R.all hb HB.size
  replace HB := HB.trans (hb.mono HB.size)
  clear hb
  clear OG
  cases ok
  case false =>
    clear HMN
    clear OF
    go_wp2_with fail
    refine (hWi.out _ _ _ OX.rd).mono ?_
    rintro e w5 ⟨A5, c5, rfl, own, hb⟩
    replace OX := OX.all hb
    replace R := R.all hb HB.size
    have OA := own.mono HB.size
    clear own
    replace HB := HB.trans (hb.mono HB.size)
    clear hb
    go_wp2_with fail
    refine (hWs.out _ _ _ OX.rd).mono ?_
    rintro e w6 ⟨A6, c6, rfl, own, hb⟩
    replace OX := OX.all hb
    replace OA := OA.all hb
    replace R := R.all hb HB.size
    have OB := own.mono HB.size
    clear own
    replace HB := HB.trans (hb.mono HB.size)
    clear hb
    clear hWi hWs
    clear OX
    go_wp2_with fail
    refine (rInts_low _ _ _ _ _ _ _ _ wi _ OA.rd OB.rd).mono ?_
    rintro e w7 ⟨rfl, hb⟩
    replace OA := OA.all hb
    replace OB := OB.all hb
    replace R := R.all hb HB.size
    replace HB := HB.trans (hb.mono HB.size)
    clear hb
    clear OA OB
    go_wp2_with fail
    refine (drawTeachSkill_any A n c w.heap.size _ R HB.size hn).mono ?_
    rintro e w8 ⟨A7, c7, ls, te, pu, sk, rfl, hll, hte, hpu, hsk, own, hb⟩
    replace R := R.all hb HB.size
    have OL := own.mono HB.size
    clear own
    replace HB := HB.trans (hb.mono HB.size)
    clear hb
    obtain ⟨tz, htz⟩ : ∃ z, (teach11 ls te pu sk).1 = z := ⟨_, rfl⟩
    obtain ⟨tb, htb⟩ : ∃ z, (teach11 ls te pu sk).2 = z := ⟨_, rfl⟩
    obtain ⟨az, haz⟩ : ∃ z, (with11 tz sk).1 = z := ⟨_, rfl⟩
    obtain ⟨ab, hab⟩ : ∃ z, (with11 tz sk).2 = z := ⟨_, rfl⟩
    have hTi : Hid (∀ (w : World) (A : Option Addr) (c : Nat), RdF weaverF w w.heap.size A ls.length c ls → Calls Try.prog 29 #[.slice A ls.length c, .int .i64 te, .int .i64 pu, .int .i64 sk] w (OutF weaverF w tz tb)) := Lib.hid fun w A c h => (by have := implTeachSkill_any A _ c _ ls te pu sk w h (Nat.le_refl _); rw [htz, htb] at this; exact this)
    have hTs : Hid (∀ (w : World) (A : Option Addr) (c : Nat), RdF weaverF w w.heap.size A ls.length c ls → Calls Try.prog 30 #[.slice A ls.length c, .int .i64 te, .int .i64 pu, .int .i64 sk] w (OutF weaverF w tz tb)) := Lib.hid fun w A c h => (by have := specTeachSkill_any A _ c _ ls te pu sk w h (Nat.le_refl _); rw [htz, htb] at this; exact this)
    have hAi : Hid (∀ (w : World) (A : Option Addr) (c : Nat), RdF weaverF w w.heap.size A tz.length c tz → Calls Try.prog 26 #[.slice A tz.length c, .int .i64 sk] w (OutInts w az ab)) := Lib.hid fun w A c h => (by have := implWithSkills_any A _ c _ tz sk w h (Nat.le_refl _); rw [haz, hab] at this; exact this)
    have HTB : Hid (tb = true → ab = true ∧ pu ∈ az ∧ te ∈ az) := Lib.hid fun ho => by
      obtain ⟨h1, h2, h3⟩ := teach_has (xs := ls) (t := te) (p := pu) (s := sk) (zs := tz) (by rw [← htz, ← ho, ← htb])
      rw [h1] at haz hab
      exact ⟨hab.symm, haz ▸ h2, haz ▸ h3⟩
    clear htz htb haz hab hll hte hpu hsk
    go_wp2_with fail
    refine (hTi.out _ _ _ OL.rd).mono ?_
    rintro e w9 ⟨A8, c8, rfl, own, hb⟩
    replace OL := OL.all hb
    replace R := R.all hb HB.size
    have OT := own.mono HB.size
    clear own
    replace HB := HB.trans (hb.mono HB.size)
    clear hb
    go_wp2_with fail
    refine (hTs.out _ _ _ OL.rd).mono ?_
    rintro e w10 ⟨A9, c9, rfl, own, hb⟩
    replace OL := OL.all hb
    replace OT := OT.all hb
    replace R := R.all hb HB.size
    have OU := own.mono HB.size
    clear own
    replace HB := HB.trans (hb.mono HB.size)
    clear hb
    clear hTi hTs
    clear OL
    go_wp2_with fail
    refine (rWeavers_same _ _ _ _ _ _ _ _ tz _ OT.rd OU.rd).mono ?_
    rintro e w11 ⟨rfl, hb⟩
    replace OT := OT.all hb
    replace OU := OU.all hb
    replace R := R.all hb HB.size
    replace HB := HB.trans (hb.mono HB.size)
    clear hb
    clear OU
    cases tb
    case false =>
      clear HTB hAi
      clear OT
      go_wp2_with fail
      refine (drawIsWeaver_any A n c w.heap.size _ R HB.size hn).mono ?_
      rintro e w12 ⟨s, rfl, hs, hb⟩
      replace R := R.all hb HB.size
      replace HB := HB.trans (hb.mono HB.size)
      clear hb
      replace R := R.alloc HB.size (.cells #[.int .i64 s.f0, .string s.f1, .int .i64 s.f2, .int .i64 s.f3, .int .i64 s.f4] 40)
      have bS := Blk.new w12 #[.int .i64 s.f0, .string s.f1, .int .i64 s.f2, .int .i64 s.f3, .int .i64 s.f4] 40
      replace HB := HB.alloc HB.size (.cells #[.int .i64 s.f0, .string s.f1, .int .i64 s.f2, .int .i64 s.f3, .int .i64 s.f4] 40)
      obtain ⟨lb, hlb⟩ : ∃ z, weaverB s = z := ⟨_, rfl⟩
      have HLB := Lib.hid hlb
      have hms := hs.2.1
      clear hlb hs
      have ebS0 := bS.cell 0
      have ebS1 := bS.cell 1
      have ebS2 := bS.cell 2
      have ebS3 := bS.cell 3
      have ebS4 := bS.cell 4
      have zbS := bS.lt
      have hPz := bS.lt
      go_wp2
      refine wp_region_noPanic ?_
      refine wp_region_held_drew (S := (fun w' => w'.cell? ⟨w12.heap.size, 0, none⟩ = some (.int .i64 s.f0) ∧ w'.cell? ⟨w12.heap.size, 1, none⟩ = some (.string s.f1) ∧ w'.cell? ⟨w12.heap.size, 2, none⟩ = some (.int .i64 s.f2) ∧ w'.cell? ⟨w12.heap.size, 3, none⟩ = some (.int .i64 s.f3) ∧ w'.cell? ⟨w12.heap.size, 4, none⟩ = some (.int .i64 s.f4))) (by kernel_rfl) (by exact ⟨bS.cell 0, bS.cell 1, bS.cell 2, bS.cell 3, bS.cell 4⟩) (fun hHeld => ?_)
      refine wpAnyH_take (i := 0) (v := ?_) rfl (by kernel_rfl) (by kernel_rfl) (by kernel_rfl) (fun _ _ _ h => h) (Or.inl ⟨by rfl, ?_⟩) (by assumption) ?_
      rotate_left
      · intro w hSw; (try dsimp only at hSw); go_simp; (try with_reducible rfl)
      (try simp only [Act.put, List.getElem_toArray, List.getElem_cons_zero, List.setIfInBounds_toArray, List.set_cons_zero, List.set_cons_succ])
      refine wpAnyH_take (i := 2) (v := ?_) rfl (by kernel_rfl) (by kernel_rfl) (by kernel_rfl) (fun _ _ _ h => h) (Or.inl ⟨by rfl, ?_⟩) (by assumption) ?_
      rotate_left
      · intro w hSw; (try dsimp only at hSw); go_simp; (try with_reducible rfl)
      (try simp only [Act.put, List.getElem_toArray, List.getElem_cons_zero, List.getElem_cons_succ, List.setIfInBounds_toArray, List.set_cons_zero, List.set_cons_succ])
      refine wpAnyH_ready (rs := [1]) (by kernel_rfl) (by simp) ?_
      refine AllReadyH.cons rfl (fun K hK => ?_) AllReadyH.nil
      go_simp
      (first | ((with_reducible refine (implIsWeaver_eq s _ hms lb HLB.out).mono ?_); rintro e w5 ⟨rfl, hb5⟩; (try replace hb5 := below_drew' hb5); replace bS := bS.all hb5; replace HB := HB.trans (hb5.mono HB.size); clear hb5; go_simp) | ((with_reducible refine (specIsWeaver_eq s _ hms lb HLB.out).mono ?_); rintro e w5 ⟨rfl, hb5⟩; (try replace hb5 := below_drew' hb5); replace bS := bS.all hb5; replace HB := HB.trans (hb5.mono HB.size); clear hb5; go_simp))
      refine hK.out _ _ (by exact ⟨bS.cell 0, bS.cell 1, bS.cell 2, bS.cell 3, bS.cell 4⟩) (fun hHeld => ?_)
      clear hK K
      (try simp only [Act.put, List.getElem_toArray, List.getElem_cons_zero, List.getElem_cons_succ, List.setIfInBounds_toArray, List.set_cons_zero, List.set_cons_succ])
      refine wpAnyH_ready (rs := [3]) (by kernel_rfl) (by simp) ?_
      refine AllReadyH.cons rfl (fun K hK => ?_) AllReadyH.nil
      go_simp
      (first | ((with_reducible refine (implIsWeaver_eq s _ hms lb HLB.out).mono ?_); rintro e w5 ⟨rfl, hb5⟩; (try replace hb5 := below_drew' hb5); replace bS := bS.all hb5; replace HB := HB.trans (hb5.mono HB.size); clear hb5; go_simp) | ((with_reducible refine (specIsWeaver_eq s _ hms lb HLB.out).mono ?_); rintro e w5 ⟨rfl, hb5⟩; (try replace hb5 := below_drew' hb5); replace bS := bS.all hb5; replace HB := HB.trans (hb5.mono HB.size); clear hb5; go_simp))
      refine hK.out _ _ (by exact ⟨bS.cell 0, bS.cell 1, bS.cell 2, bS.cell 3, bS.cell 4⟩) (fun hHeld => ?_)
      clear hK K
      (try simp only [Act.put, List.getElem_toArray, List.getElem_cons_zero, List.getElem_cons_succ, List.setIfInBounds_toArray, List.set_cons_zero, List.set_cons_succ])
      refine wpAnyH_take (i := 4) (v := ?_) rfl (by kernel_rfl) (by kernel_rfl) (by kernel_rfl) (fun _ _ _ h => h) (Or.inl ⟨by rfl, ?_⟩) (by assumption) ?_
      rotate_left
      · intro w hSw; (try dsimp only at hSw); go_simp; (try with_reducible rfl)
      (try simp only [Act.put, List.getElem_toArray, List.getElem_cons_zero, List.getElem_cons_succ, List.setIfInBounds_toArray, List.set_cons_zero, List.set_cons_succ])
      refine wpAnyH_take (i := 5) (v := ?_) rfl (by kernel_rfl) (by kernel_rfl) (by kernel_rfl) (fun _ _ _ h => h) (Or.inl ⟨by rfl, ?_⟩) (by assumption) ?_
      rotate_left
      · intro w hSw; (try dsimp only at hSw); go_simp; (try with_reducible rfl)
      (try simp only [Act.put, List.getElem_toArray, List.getElem_cons_zero, List.getElem_cons_succ, List.setIfInBounds_toArray, List.set_cons_zero, List.set_cons_succ])
      refine wpAnyH_done (by kernel_rfl) ?_ _
      refine NoPanic.normal ?_
      go_wp2
      go_ret
      exact ⟨ret_bool (by simp), HB⟩
    case true =>
      obtain ⟨rfl, m1, m2⟩ := HTB.out rfl
      have M1 := Lib.hid (decide_eq_true m1)
      have M2 := Lib.hid (decide_eq_true m2)
      clear HTB m1 m2
      go_wp2_with fail
      refine (hAi.out _ _ _ OT.rd).mono ?_
      rintro e w12 ⟨A10, c10, rfl, own, hb⟩
      replace OT := OT.all hb
      replace R := R.all hb HB.size
      have OZ := own.mono HB.size
      clear own
      replace HB := HB.trans (hb.mono HB.size)
      clear hb
      clear hAi
      have hrz := OZ.rd
      go_wp2_with fail
      refine (rHas_eq _ _ _ _ az pu _ true hrz M1).mono ?_
      rintro e w' ⟨rfl, rfl⟩
      go_wp2_with fail
      refine (rHas_eq _ _ _ _ az te _ true hrz M2).mono ?_
      rintro e w' ⟨rfl, rfl⟩
      clear hrz M1 M2
      clear OT OZ
      go_wp2_with fail
      refine (drawIsWeaver_any A n c w.heap.size _ R HB.size hn).mono ?_
      rintro e w13 ⟨s, rfl, hs, hb⟩
      replace R := R.all hb HB.size
      replace HB := HB.trans (hb.mono HB.size)
      clear hb
      replace R := R.alloc HB.size (.cells #[.int .i64 s.f0, .string s.f1, .int .i64 s.f2, .int .i64 s.f3, .int .i64 s.f4] 40)
      have bS := Blk.new w13 #[.int .i64 s.f0, .string s.f1, .int .i64 s.f2, .int .i64 s.f3, .int .i64 s.f4] 40
      replace HB := HB.alloc HB.size (.cells #[.int .i64 s.f0, .string s.f1, .int .i64 s.f2, .int .i64 s.f3, .int .i64 s.f4] 40)
      obtain ⟨lb, hlb⟩ : ∃ z, weaverB s = z := ⟨_, rfl⟩
      have HLB := Lib.hid hlb
      have hms := hs.2.1
      clear hlb hs
      have ebS0 := bS.cell 0
      have ebS1 := bS.cell 1
      have ebS2 := bS.cell 2
      have ebS3 := bS.cell 3
      have ebS4 := bS.cell 4
      have zbS := bS.lt
      have hPz := bS.lt
      go_wp2
      refine wp_region_noPanic ?_
      refine wp_region_held_drew (S := (fun w' => w'.cell? ⟨w13.heap.size, 0, none⟩ = some (.int .i64 s.f0) ∧ w'.cell? ⟨w13.heap.size, 1, none⟩ = some (.string s.f1) ∧ w'.cell? ⟨w13.heap.size, 2, none⟩ = some (.int .i64 s.f2) ∧ w'.cell? ⟨w13.heap.size, 3, none⟩ = some (.int .i64 s.f3) ∧ w'.cell? ⟨w13.heap.size, 4, none⟩ = some (.int .i64 s.f4))) (by kernel_rfl) (by exact ⟨bS.cell 0, bS.cell 1, bS.cell 2, bS.cell 3, bS.cell 4⟩) (fun hHeld => ?_)
      refine wpAnyH_take (i := 0) (v := ?_) rfl (by kernel_rfl) (by kernel_rfl) (by kernel_rfl) (fun _ _ _ h => h) (Or.inl ⟨by rfl, ?_⟩) (by assumption) ?_
      rotate_left
      · intro w hSw; (try dsimp only at hSw); go_simp; (try with_reducible rfl)
      (try simp only [Act.put, List.getElem_toArray, List.getElem_cons_zero, List.setIfInBounds_toArray, List.set_cons_zero, List.set_cons_succ])
      refine wpAnyH_take (i := 2) (v := ?_) rfl (by kernel_rfl) (by kernel_rfl) (by kernel_rfl) (fun _ _ _ h => h) (Or.inl ⟨by rfl, ?_⟩) (by assumption) ?_
      rotate_left
      · intro w hSw; (try dsimp only at hSw); go_simp; (try with_reducible rfl)
      (try simp only [Act.put, List.getElem_toArray, List.getElem_cons_zero, List.getElem_cons_succ, List.setIfInBounds_toArray, List.set_cons_zero, List.set_cons_succ])
      refine wpAnyH_ready (rs := [1]) (by kernel_rfl) (by simp) ?_
      refine AllReadyH.cons rfl (fun K hK => ?_) AllReadyH.nil
      go_simp
      (first | ((with_reducible refine (implIsWeaver_eq s _ hms lb HLB.out).mono ?_); rintro e w5 ⟨rfl, hb5⟩; (try replace hb5 := below_drew' hb5); replace bS := bS.all hb5; replace HB := HB.trans (hb5.mono HB.size); clear hb5; go_simp) | ((with_reducible refine (specIsWeaver_eq s _ hms lb HLB.out).mono ?_); rintro e w5 ⟨rfl, hb5⟩; (try replace hb5 := below_drew' hb5); replace bS := bS.all hb5; replace HB := HB.trans (hb5.mono HB.size); clear hb5; go_simp))
      refine hK.out _ _ (by exact ⟨bS.cell 0, bS.cell 1, bS.cell 2, bS.cell 3, bS.cell 4⟩) (fun hHeld => ?_)
      clear hK K
      (try simp only [Act.put, List.getElem_toArray, List.getElem_cons_zero, List.getElem_cons_succ, List.setIfInBounds_toArray, List.set_cons_zero, List.set_cons_succ])
      refine wpAnyH_ready (rs := [3]) (by kernel_rfl) (by simp) ?_
      refine AllReadyH.cons rfl (fun K hK => ?_) AllReadyH.nil
      go_simp
      (first | ((with_reducible refine (implIsWeaver_eq s _ hms lb HLB.out).mono ?_); rintro e w5 ⟨rfl, hb5⟩; (try replace hb5 := below_drew' hb5); replace bS := bS.all hb5; replace HB := HB.trans (hb5.mono HB.size); clear hb5; go_simp) | ((with_reducible refine (specIsWeaver_eq s _ hms lb HLB.out).mono ?_); rintro e w5 ⟨rfl, hb5⟩; (try replace hb5 := below_drew' hb5); replace bS := bS.all hb5; replace HB := HB.trans (hb5.mono HB.size); clear hb5; go_simp))
      refine hK.out _ _ (by exact ⟨bS.cell 0, bS.cell 1, bS.cell 2, bS.cell 3, bS.cell 4⟩) (fun hHeld => ?_)
      clear hK K
      (try simp only [Act.put, List.getElem_toArray, List.getElem_cons_zero, List.getElem_cons_succ, List.setIfInBounds_toArray, List.set_cons_zero, List.set_cons_succ])
      refine wpAnyH_take (i := 4) (v := ?_) rfl (by kernel_rfl) (by kernel_rfl) (by kernel_rfl) (fun _ _ _ h => h) (Or.inl ⟨by rfl, ?_⟩) (by assumption) ?_
      rotate_left
      · intro w hSw; (try dsimp only at hSw); go_simp; (try with_reducible rfl)
      (try simp only [Act.put, List.getElem_toArray, List.getElem_cons_zero, List.getElem_cons_succ, List.setIfInBounds_toArray, List.set_cons_zero, List.set_cons_succ])
      refine wpAnyH_take (i := 5) (v := ?_) rfl (by kernel_rfl) (by kernel_rfl) (by kernel_rfl) (fun _ _ _ h => h) (Or.inl ⟨by rfl, ?_⟩) (by assumption) ?_
      rotate_left
      · intro w hSw; (try dsimp only at hSw); go_simp; (try with_reducible rfl)
      (try simp only [Act.put, List.getElem_toArray, List.getElem_cons_zero, List.getElem_cons_succ, List.setIfInBounds_toArray, List.set_cons_zero, List.set_cons_succ])
      refine wpAnyH_done (by kernel_rfl) ?_ _
      refine NoPanic.normal ?_
      go_wp2
      go_ret
      exact ⟨ret_bool (by simp), HB⟩
  case true =>
    obtain ⟨g1, g2, rfl, g4, g5, g6, g7⟩ := HMN.out rfl
    have H1 := Lib.hid g1
    have H2 := Lib.hid g2
    have H4 := Lib.hid g4
    have H5 := Lib.hid g5
    have H6 := Lib.hid g6
    clear HMN g1 g2 g4 g5 g6
    go_wp2
    go_loopw [10, 9] (fun ii aa wr => ∃ (k : Nat) (t : Int), k ≤ xs.length ∧ ii = .int .i64 k ∧ aa = .int .i64 t ∧ In15 t ∧ Hid (orP (inP few) (xs.drop k) t = orP (inP few) xs 0) ∧ wr = w4) (fun ii _ _ => xs.length - (intOf ii).toNat)
    case atStart => exact ⟨0, 0, Nat.zero_le _, rfl, rfl, ⟨by omega, by omega⟩, Lib.hid rfl, rfl⟩
    case round =>
      obtain ⟨k, t, hk, rfl, rfl, ht15, HT, hw⟩ := hrel
      subst hw
      by_cases hlt : k < xs.length
      · have hrv := OX.rd
        have hrf := OF.rd
        obtain ⟨b, off, a, rfl, _, _, HX, hc0, _, hc2, _, _⟩ := WeaverR_at (F := weaverF) rfl (fun _ => rfl) (fun _ => rfl) hrv hlt
        have HD := Lib.hid (orP_drop (P := inP few) HX.out t)
        have ha15 := (fast_at H5.out HX.out).2
        by_cases hm : a.f0 ∈ few
        · have HN := Lib.hid (show orP (inP few) (xs.drop (k + 1)) (orI t a.f2) = orP (inP few) xs 0 by rw [← HT.out, HD.out, if_pos (show inP few a.f0 = true from decide_eq_true hm)])
          have HH := Lib.hid (decide_eq_true hm)
          have hor := orI_in ht15 ha15
          clear hm
          go_wp2_with fail
          refine (rHas_eq _ _ _ _ few a.f0 _ true hrf HH).mono ?_
          rintro e w' ⟨rfl, rfl⟩
          go_wp2
          go_roundw
          case rel => exact ⟨k + 1, orI t a.f2, by omega, by go_num, rfl, hor, HN, by first | rfl | trivial⟩
          case measure => simp [intOf]; omega
        · have HN := Lib.hid (show orP (inP few) (xs.drop (k + 1)) (t) = orP (inP few) xs 0 by rw [← HT.out, HD.out, if_neg (by unfold inP; rw [decide_eq_false hm]; decide)])
          have HH := Lib.hid (decide_eq_false hm)
          clear hm
          go_wp2_with fail
          refine (rHas_eq _ _ _ _ few a.f0 _ false hrf HH).mono ?_
          rintro e w' ⟨rfl, rfl⟩
          go_wp2
          go_roundw
          case rel => exact ⟨k + 1, t, by omega, by go_num, rfl, ht15, HN, by first | rfl | trivial⟩
          case measure => simp [intOf]; omega
      · obtain rfl : k = xs.length := by omega
        have HA := Lib.hid (show t = orP (inP few) xs 0 by have := HT.out; rwa [List.drop_length] at this)
        have hB1 : (bits BinOp.and IntKind.i64 t nd == nd) = true := by have := H1.out; rw [← HA.out] at this; simpa [hasB, andI] using this
        have hB2 : (bits BinOp.and IntKind.i64 t nd != nd) = false := by rw [bne, hB1]; rfl
        clear HT
        have eW : ∃ v : World, v = wr := ⟨_, rfl⟩
        obtain ⟨W0, hW0⟩ := eW
        subst hW0
        go_wp2
        go_loopw [11] (fun kk wr => ∃ l q : Nat, l ≤ few.length ∧ kk = .int .i64 l ∧ wr = W0.drewN q) (fun kk _ => few.length - (intOf kk).toNat)
        case atStart => exact ⟨0, 0, Nat.zero_le _, rfl, rfl⟩
        case round =>
          obtain ⟨l, q, hl, rfl, rfl⟩ := hrel
          by_cases hlf : l < few.length
          · have OF0 := OF.drewN q
            obtain ⟨bf, of_, y, ef, hyc, hgy⟩ := rd_get OF0.rd hlf
            subst ef
            have HK := Lib.hid (H2.out l y hgy)
            clear hgy
            go_wp2
            go_loopw [13, 12] (fun ii aa wr => ∃ (k q2 : Nat) (s : Int), k ≤ xs.length ∧ ii = .int .i64 k ∧ aa = .int .i64 s ∧ In15 s ∧ Hid (orP (butP few y) (xs.drop k) s = orP (butP few y) xs 0) ∧ wr = W0.drewN q2) (fun ii _ _ => xs.length - (intOf ii).toNat)
            case atStart => exact ⟨0, q, 0, Nat.zero_le _, rfl, rfl, ⟨by omega, by omega⟩, Lib.hid rfl, rfl⟩
            case round =>
              obtain ⟨k, q2, s, hk, rfl, rfl, hs15, HT, rfl⟩ := hrel
              by_cases hlt2 : k < xs.length
              · have OXr := OX.drewN q2
                have OFr := OF.drewN q2
                have hyd : (W0.drewN q2).cell? ⟨bf, of_ + l, none⟩ = some (.int .i64 y) := hyc
                obtain ⟨b, off, a, ea, _, _, HX, hc0, _, hc2, _, _⟩ := WeaverR_at (F := weaverF) rfl (fun _ => rfl) (fun _ => rfl) OXr.rd hlt2
                subst ea
                have HD := Lib.hid (orP_drop (P := butP few y) HX.out s)
                have ha15 := (fast_at H5.out HX.out).2
                have hl0 : (0 : Int) ≤ (l : Int) := by omega
                have hl1 : (l : Int) < (few.length : Int) := by omega
                have hk0 : (0 : Int) ≤ (k : Int) := by omega
                have hk1 : (k : Int) < (xs.length : Int) := by omega
                have hrf : Rd (W0.drewN (q2 + 1)) W0.heap.size (some ⟨bf, of_, none⟩) few.length _ few := (OF.drewN (q2 + 1)).rd
                by_cases hm : a.f0 ∈ few
                rotate_left
                · have HN := Lib.hid (show orP (butP few y) (xs.drop (k + 1)) s = orP (butP few y) xs 0 by rw [← HT.out, HD.out, if_neg (by unfold butP; rw [decide_eq_false hm]; simp)])
                  have HH := Lib.hid (decide_eq_false hm)
                  clear hm
                  go_wp2
                  refine wp_region_noPanic ?_
                  refine wp_region_held_drew (S := (fun w' => w'.cell? ⟨b, off + k * 5, none⟩ = some (.int .i64 a.f0) ∧ w'.cell? ⟨bf, of_ + l, none⟩ = some (.int .i64 y))) (by kernel_rfl) (by exact ⟨hc0, hyd⟩) (fun hHeld => ?_)
                  refine wpAnyH_take (i := 0) (v := ?_) rfl (by kernel_rfl) (by kernel_rfl) (by kernel_rfl) (fun _ _ _ h => h) (Or.inl ⟨by rfl, ?_⟩) (by assumption) ?_
                  rotate_left
                  · intro w hSw; (try dsimp only at hSw); go_simp; (try with_reducible rfl)
                  (try simp only [Act.put, List.getElem_toArray, List.getElem_cons_zero, List.setIfInBounds_toArray, List.set_cons_zero, List.set_cons_succ])
                  refine wpAnyH_take (i := 1) (v := ?_) rfl (by kernel_rfl) (by kernel_rfl) (by kernel_rfl) (fun _ _ _ h => h) (Or.inl ⟨by rfl, ?_⟩) (by assumption) ?_
                  rotate_left
                  · intro w hSw; (try dsimp only at hSw); go_simp; (try with_reducible rfl)
                  (try simp only [Act.put, List.getElem_toArray, List.getElem_cons_zero, List.getElem_cons_succ, List.setIfInBounds_toArray, List.set_cons_zero, List.set_cons_succ])
                  refine wpAnyH_take (i := 2) (v := ?_) rfl (by kernel_rfl) (by kernel_rfl) (by kernel_rfl) (fun _ _ _ h => h) (Or.inl ⟨by rfl, ?_⟩) (by assumption) ?_
                  rotate_left
                  · intro w hSw; (try dsimp only at hSw); go_simp; (try with_reducible rfl)
                  (try simp only [Act.put, List.getElem_toArray, List.getElem_cons_zero, List.getElem_cons_succ, List.setIfInBounds_toArray, List.set_cons_zero, List.set_cons_succ])
                  refine wpAnyH_take (i := 3) (v := ?_) rfl (by kernel_rfl) (by kernel_rfl) (by kernel_rfl) (fun _ _ _ h => h) (Or.inl ⟨by rfl, ?_⟩) (by assumption) ?_
                  rotate_left
                  · intro w hSw; (try dsimp only at hSw); go_simp; (try with_reducible rfl)
                  (try simp only [Act.put, List.getElem_toArray, List.getElem_cons_zero, List.getElem_cons_succ, List.setIfInBounds_toArray, List.set_cons_zero, List.set_cons_succ])
                  refine wpAnyH_take (i := 4) (v := ?_) rfl (by kernel_rfl) (by kernel_rfl) (by kernel_rfl) (fun _ _ _ h => h) (Or.inl ⟨by rfl, ?_⟩) (by assumption) ?_
                  rotate_left
                  · intro w hSw; (try dsimp only at hSw); go_simp; (try with_reducible rfl)
                  (try simp only [Act.put, List.getElem_toArray, List.getElem_cons_zero, List.getElem_cons_succ, List.setIfInBounds_toArray, List.set_cons_zero, List.set_cons_succ])
                  refine wpAnyH_take (i := 5) (v := ?_) rfl (by kernel_rfl) (by kernel_rfl) (by kernel_rfl) (fun _ _ _ h => h) (Or.inl ⟨by rfl, ?_⟩) (by assumption) ?_
                  rotate_left
                  · intro w hSw; (try dsimp only at hSw); go_simp; (try with_reducible rfl)
                  (try simp only [Act.put, List.getElem_toArray, List.getElem_cons_zero, List.getElem_cons_succ, List.setIfInBounds_toArray, List.set_cons_zero, List.set_cons_succ])
                  refine wpAnyH_ready (rs := [6]) (by kernel_rfl) (by simp) ?_
                  refine AllReadyH.cons rfl (fun K hK => ?_) AllReadyH.nil
                  go_simp
                  ((with_reducible refine (rHas_eq _ _ _ _ few a.f0 _ false hrf HH).mono ?_); rintro e w5 ⟨rfl, rfl⟩; go_simp)
                  refine hK.out _ _ (by exact ⟨hc0, hyd⟩) (fun hHeld => ?_)
                  clear hK K
                  (try simp only [Act.put, List.getElem_toArray, List.getElem_cons_zero, List.getElem_cons_succ, List.setIfInBounds_toArray, List.set_cons_zero, List.set_cons_succ])
                  refine wpAnyH_take (i := 7) (v := ?_) rfl (by kernel_rfl) (by kernel_rfl) (by kernel_rfl) (fun _ _ _ h => h) (Or.inl ⟨by rfl, ?_⟩) (by assumption) ?_
                  rotate_left
                  · intro w hSw; (try dsimp only at hSw); go_simp; (try with_reducible rfl)
                  (try simp only [Act.put, List.getElem_toArray, List.getElem_cons_zero, List.getElem_cons_succ, List.setIfInBounds_toArray, List.set_cons_zero, List.set_cons_succ])
                  refine wpAnyH_take (i := 8) (v := undef) rfl (by kernel_rfl) (by kernel_rfl) (by kernel_rfl) (fun _ _ _ h => h) (Or.inr ⟨by rfl, rfl⟩) (by assumption) ?_
                  (try simp only [Act.put, List.getElem_toArray, List.getElem_cons_zero, List.getElem_cons_succ, List.setIfInBounds_toArray, List.set_cons_zero, List.set_cons_succ])
                  refine wpAnyH_take (i := 9) (v := undef) rfl (by kernel_rfl) (by kernel_rfl) (by kernel_rfl) (fun _ _ _ h => h) (Or.inr ⟨by rfl, rfl⟩) (by assumption) ?_
                  (try simp only [Act.put, List.getElem_toArray, List.getElem_cons_zero, List.getElem_cons_succ, List.setIfInBounds_toArray, List.set_cons_zero, List.set_cons_succ])
                  refine wpAnyH_take (i := 10) (v := undef) rfl (by kernel_rfl) (by kernel_rfl) (by kernel_rfl) (fun _ _ _ h => h) (Or.inr ⟨by rfl, rfl⟩) (by assumption) ?_
                  (try simp only [Act.put, List.getElem_toArray, List.getElem_cons_zero, List.getElem_cons_succ, List.setIfInBounds_toArray, List.set_cons_zero, List.set_cons_succ])
                  refine wpAnyH_take (i := 11) (v := undef) rfl (by kernel_rfl) (by kernel_rfl) (by kernel_rfl) (fun _ _ _ h => h) (Or.inr ⟨by rfl, rfl⟩) (by assumption) ?_
                  (try simp only [Act.put, List.getElem_toArray, List.getElem_cons_zero, List.getElem_cons_succ, List.setIfInBounds_toArray, List.set_cons_zero, List.set_cons_succ])
                  refine wpAnyH_take (i := 12) (v := undef) rfl (by kernel_rfl) (by kernel_rfl) (by kernel_rfl) (fun _ _ _ h => h) (Or.inr ⟨by rfl, rfl⟩) (by assumption) ?_
                  (try simp only [Act.put, List.getElem_toArray, List.getElem_cons_zero, List.getElem_cons_succ, List.setIfInBounds_toArray, List.set_cons_zero, List.set_cons_succ])
                  refine wpAnyH_take (i := 13) (v := undef) rfl (by kernel_rfl) (by kernel_rfl) (by kernel_rfl) (fun _ _ _ h => h) (Or.inr ⟨by rfl, rfl⟩) (by assumption) ?_
                  (try simp only [Act.put, List.getElem_toArray, List.getElem_cons_zero, List.getElem_cons_succ, List.setIfInBounds_toArray, List.set_cons_zero, List.set_cons_succ])
                  refine wpAnyH_take (i := 14) (v := undef) rfl (by kernel_rfl) (by kernel_rfl) (by kernel_rfl) (fun _ _ _ h => h) (Or.inr ⟨by rfl, rfl⟩) (by assumption) ?_
                  (try simp only [Act.put, List.getElem_toArray, List.getElem_cons_zero, List.getElem_cons_succ, List.setIfInBounds_toArray, List.set_cons_zero, List.set_cons_succ])
                  refine wpAnyH_take (i := 15) (v := undef) rfl (by kernel_rfl) (by kernel_rfl) (by kernel_rfl) (fun _ _ _ h => h) (Or.inr ⟨by rfl, rfl⟩) (by assumption) ?_
                  (try simp only [Act.put, List.getElem_toArray, List.getElem_cons_zero, List.getElem_cons_succ, List.setIfInBounds_toArray, List.set_cons_zero, List.set_cons_succ])
                  refine wpAnyH_take (i := 16) (v := undef) rfl (by kernel_rfl) (by kernel_rfl) (by kernel_rfl) (fun _ _ _ h => h) (Or.inr ⟨by rfl, rfl⟩) (by assumption) ?_
                  (try simp only [Act.put, List.getElem_toArray, List.getElem_cons_zero, List.getElem_cons_succ, List.setIfInBounds_toArray, List.set_cons_zero, List.set_cons_succ])
                  refine wpAnyH_take (i := 17) (v := undef) rfl (by kernel_rfl) (by kernel_rfl) (by kernel_rfl) (fun _ _ _ h => h) (Or.inr ⟨by rfl, rfl⟩) (by assumption) ?_
                  (try simp only [Act.put, List.getElem_toArray, List.getElem_cons_zero, List.getElem_cons_succ, List.setIfInBounds_toArray, List.set_cons_zero, List.set_cons_succ])
                  refine wpAnyH_take (i := 18) (v := ?_) rfl (by kernel_rfl) (by kernel_rfl) (by kernel_rfl) (fun _ _ _ h => h) (Or.inl ⟨by rfl, ?_⟩) (by assumption) ?_
                  rotate_left
                  · intro w hSw; (try dsimp only at hSw); go_simp; (try with_reducible rfl)
                  (try simp only [Act.put, List.getElem_toArray, List.getElem_cons_zero, List.getElem_cons_succ, List.setIfInBounds_toArray, List.set_cons_zero, List.set_cons_succ])
                  refine wpAnyH_done (by kernel_rfl) ?_ _
                  refine NoPanic.normal ?_
                  go_wp2
                  go_roundw
                  case rel => exact ⟨k + 1, q2 + 1, s, by omega, by go_num, rfl, hs15, HN, rfl⟩
                  case measure => simp [intOf]; omega
                have HH := Lib.hid (decide_eq_true hm)
                by_cases hy : a.f0 = y
                rotate_left
                · have HN := Lib.hid (show orP (butP few y) (xs.drop (k + 1)) (orI s a.f2) = orP (butP few y) xs 0 by rw [← HT.out, HD.out, if_pos (by unfold butP; rw [decide_eq_true hm, decide_eq_false hy]; rfl)])
                  have hor := orI_in hs15 ha15
                  have hy1 : (a.f0 == y) = false := by simp [hy]
                  have hy2 : (a.f0 != y) = true := by simp [hy]
                  have hc2' : W0.cell? ⟨b, off + k * 5 + 2, none⟩ = some (.int .i64 a.f2) := hc2
                  have hc3' : (W0.drewN (q2 + 1)).cell? ⟨b, off + k * 5 + 2, none⟩ = some (.int .i64 a.f2) := hc2
                  clear hm hy
                  go_wp2
                  refine wp_region_noPanic ?_
                  refine wp_region_held_drew (S := (fun w' => w'.cell? ⟨b, off + k * 5, none⟩ = some (.int .i64 a.f0) ∧ w'.cell? ⟨bf, of_ + l, none⟩ = some (.int .i64 y))) (by kernel_rfl) (by exact ⟨hc0, hyd⟩) (fun hHeld => ?_)
                  refine wpAnyH_take (i := 0) (v := ?_) rfl (by kernel_rfl) (by kernel_rfl) (by kernel_rfl) (fun _ _ _ h => h) (Or.inl ⟨by rfl, ?_⟩) (by assumption) ?_
                  rotate_left
                  · intro w hSw; (try dsimp only at hSw); go_simp; (try with_reducible rfl)
                  (try simp only [Act.put, List.getElem_toArray, List.getElem_cons_zero, List.setIfInBounds_toArray, List.set_cons_zero, List.set_cons_succ])
                  refine wpAnyH_take (i := 1) (v := ?_) rfl (by kernel_rfl) (by kernel_rfl) (by kernel_rfl) (fun _ _ _ h => h) (Or.inl ⟨by rfl, ?_⟩) (by assumption) ?_
                  rotate_left
                  · intro w hSw; (try dsimp only at hSw); go_simp; (try with_reducible rfl)
                  (try simp only [Act.put, List.getElem_toArray, List.getElem_cons_zero, List.getElem_cons_succ, List.setIfInBounds_toArray, List.set_cons_zero, List.set_cons_succ])
                  refine wpAnyH_take (i := 2) (v := ?_) rfl (by kernel_rfl) (by kernel_rfl) (by kernel_rfl) (fun _ _ _ h => h) (Or.inl ⟨by rfl, ?_⟩) (by assumption) ?_
                  rotate_left
                  · intro w hSw; (try dsimp only at hSw); go_simp; (try with_reducible rfl)
                  (try simp only [Act.put, List.getElem_toArray, List.getElem_cons_zero, List.getElem_cons_succ, List.setIfInBounds_toArray, List.set_cons_zero, List.set_cons_succ])
                  refine wpAnyH_take (i := 3) (v := ?_) rfl (by kernel_rfl) (by kernel_rfl) (by kernel_rfl) (fun _ _ _ h => h) (Or.inl ⟨by rfl, ?_⟩) (by assumption) ?_
                  rotate_left
                  · intro w hSw; (try dsimp only at hSw); go_simp; (try with_reducible rfl)
                  (try simp only [Act.put, List.getElem_toArray, List.getElem_cons_zero, List.getElem_cons_succ, List.setIfInBounds_toArray, List.set_cons_zero, List.set_cons_succ])
                  refine wpAnyH_take (i := 4) (v := ?_) rfl (by kernel_rfl) (by kernel_rfl) (by kernel_rfl) (fun _ _ _ h => h) (Or.inl ⟨by rfl, ?_⟩) (by assumption) ?_
                  rotate_left
                  · intro w hSw; (try dsimp only at hSw); go_simp; (try with_reducible rfl)
                  (try simp only [Act.put, List.getElem_toArray, List.getElem_cons_zero, List.getElem_cons_succ, List.setIfInBounds_toArray, List.set_cons_zero, List.set_cons_succ])
                  refine wpAnyH_take (i := 5) (v := ?_) rfl (by kernel_rfl) (by kernel_rfl) (by kernel_rfl) (fun _ _ _ h => h) (Or.inl ⟨by rfl, ?_⟩) (by assumption) ?_
                  rotate_left
                  · intro w hSw; (try dsimp only at hSw); go_simp; (try with_reducible rfl)
                  (try simp only [Act.put, List.getElem_toArray, List.getElem_cons_zero, List.getElem_cons_succ, List.setIfInBounds_toArray, List.set_cons_zero, List.set_cons_succ])
                  refine wpAnyH_ready (rs := [6]) (by kernel_rfl) (by simp) ?_
                  refine AllReadyH.cons rfl (fun K hK => ?_) AllReadyH.nil
                  go_simp
                  ((with_reducible refine (rHas_eq _ _ _ _ few a.f0 _ true hrf HH).mono ?_); rintro e w5 ⟨rfl, rfl⟩; go_simp)
                  refine hK.out _ _ (by exact ⟨hc0, hyd⟩) (fun hHeld => ?_)
                  clear hK K
                  (try simp only [Act.put, List.getElem_toArray, List.getElem_cons_zero, List.getElem_cons_succ, List.setIfInBounds_toArray, List.set_cons_zero, List.set_cons_succ])
                  refine wpAnyH_take (i := 7) (v := ?_) rfl (by kernel_rfl) (by kernel_rfl) (by kernel_rfl) (fun _ _ _ h => h) (Or.inl ⟨by rfl, ?_⟩) (by assumption) ?_
                  rotate_left
                  · intro w hSw; (try dsimp only at hSw); go_simp; (try with_reducible rfl)
                  (try simp only [Act.put, List.getElem_toArray, List.getElem_cons_zero, List.getElem_cons_succ, List.setIfInBounds_toArray, List.set_cons_zero, List.set_cons_succ])
                  refine wpAnyH_take (i := 8) (v := ?_) rfl (by kernel_rfl) (by kernel_rfl) (by kernel_rfl) (fun _ _ _ h => h) (Or.inl ⟨by rfl, ?_⟩) (by assumption) ?_
                  rotate_left
                  · intro w hSw; (try dsimp only at hSw); go_simp; (try with_reducible rfl)
                  (try simp only [Act.put, List.getElem_toArray, List.getElem_cons_zero, List.getElem_cons_succ, List.setIfInBounds_toArray, List.set_cons_zero, List.set_cons_succ])
                  refine wpAnyH_take (i := 9) (v := ?_) rfl (by kernel_rfl) (by kernel_rfl) (by kernel_rfl) (fun _ _ _ h => h) (Or.inl ⟨by rfl, ?_⟩) (by assumption) ?_
                  rotate_left
                  · intro w hSw; (try dsimp only at hSw); go_simp; (try with_reducible rfl)
                  (try simp only [Act.put, List.getElem_toArray, List.getElem_cons_zero, List.getElem_cons_succ, List.setIfInBounds_toArray, List.set_cons_zero, List.set_cons_succ])
                  refine wpAnyH_take (i := 10) (v := ?_) rfl (by kernel_rfl) (by kernel_rfl) (by kernel_rfl) (fun _ _ _ h => h) (Or.inl ⟨by rfl, ?_⟩) (by assumption) ?_
                  rotate_left
                  · intro w hSw; (try dsimp only at hSw); go_simp; (try with_reducible rfl)
                  (try simp only [Act.put, List.getElem_toArray, List.getElem_cons_zero, List.getElem_cons_succ, List.setIfInBounds_toArray, List.set_cons_zero, List.set_cons_succ])
                  refine wpAnyH_take (i := 11) (v := ?_) rfl (by kernel_rfl) (by kernel_rfl) (by kernel_rfl) (fun _ _ _ h => h) (Or.inl ⟨by rfl, ?_⟩) (by assumption) ?_
                  rotate_left
                  · intro w hSw; (try dsimp only at hSw); go_simp; (try with_reducible rfl)
                  (try simp only [Act.put, List.getElem_toArray, List.getElem_cons_zero, List.getElem_cons_succ, List.setIfInBounds_toArray, List.set_cons_zero, List.set_cons_succ])
                  refine wpAnyH_take (i := 12) (v := ?_) rfl (by kernel_rfl) (by kernel_rfl) (by kernel_rfl) (fun _ _ _ h => h) (Or.inl ⟨by rfl, ?_⟩) (by assumption) ?_
                  rotate_left
                  · intro w hSw; (try dsimp only at hSw); go_simp; (try with_reducible rfl)
                  (try simp only [Act.put, List.getElem_toArray, List.getElem_cons_zero, List.getElem_cons_succ, List.setIfInBounds_toArray, List.set_cons_zero, List.set_cons_succ])
                  refine wpAnyH_take (i := 13) (v := ?_) rfl (by kernel_rfl) (by kernel_rfl) (by kernel_rfl) (fun _ _ _ h => h) (Or.inl ⟨by rfl, ?_⟩) (by assumption) ?_
                  rotate_left
                  · intro w hSw; (try dsimp only at hSw); go_simp; (try with_reducible rfl)
                  (try simp only [Act.put, List.getElem_toArray, List.getElem_cons_zero, List.getElem_cons_succ, List.setIfInBounds_toArray, List.set_cons_zero, List.set_cons_succ])
                  refine wpAnyH_take (i := 14) (v := ?_) rfl (by kernel_rfl) (by kernel_rfl) (by kernel_rfl) (fun _ _ _ h => h) (Or.inl ⟨by rfl, ?_⟩) (by assumption) ?_
                  rotate_left
                  · intro w hSw; (try dsimp only at hSw); go_simp; (try with_reducible rfl)
                  (try simp only [Act.put, List.getElem_toArray, List.getElem_cons_zero, List.getElem_cons_succ, List.setIfInBounds_toArray, List.set_cons_zero, List.set_cons_succ])
                  refine wpAnyH_take (i := 15) (v := ?_) rfl (by kernel_rfl) (by kernel_rfl) (by kernel_rfl) (fun _ _ _ h => h) (Or.inl ⟨by rfl, ?_⟩) (by assumption) ?_
                  rotate_left
                  · intro w hSw; (try dsimp only at hSw); go_simp; (try with_reducible rfl)
                  (try simp only [Act.put, List.getElem_toArray, List.getElem_cons_zero, List.getElem_cons_succ, List.setIfInBounds_toArray, List.set_cons_zero, List.set_cons_succ])
                  refine wpAnyH_take (i := 16) (v := ?_) rfl (by kernel_rfl) (by kernel_rfl) (by kernel_rfl) (fun _ _ _ h => h) (Or.inl ⟨by rfl, ?_⟩) (by assumption) ?_
                  rotate_left
                  · intro w hSw; (try dsimp only at hSw); go_simp; (try with_reducible rfl)
                  (try simp only [Act.put, List.getElem_toArray, List.getElem_cons_zero, List.getElem_cons_succ, List.setIfInBounds_toArray, List.set_cons_zero, List.set_cons_succ])
                  refine wpAnyH_take (i := 17) (v := ?_) rfl (by kernel_rfl) (by kernel_rfl) (by kernel_rfl) (fun _ _ _ h => h) (Or.inl ⟨by rfl, ?_⟩) (by assumption) ?_
                  rotate_left
                  · intro w hSw; (try dsimp only at hSw); go_simp; (try with_reducible rfl)
                  (try simp only [Act.put, List.getElem_toArray, List.getElem_cons_zero, List.getElem_cons_succ, List.setIfInBounds_toArray, List.set_cons_zero, List.set_cons_succ])
                  refine wpAnyH_take (i := 18) (v := ?_) rfl (by kernel_rfl) (by kernel_rfl) (by kernel_rfl) (fun _ _ _ h => h) (Or.inl ⟨by rfl, ?_⟩) (by assumption) ?_
                  rotate_left
                  · intro w hSw; (try dsimp only at hSw); go_simp; (try with_reducible rfl)
                  (try simp only [Act.put, List.getElem_toArray, List.getElem_cons_zero, List.getElem_cons_succ, List.setIfInBounds_toArray, List.set_cons_zero, List.set_cons_succ])
                  refine wpAnyH_done (by kernel_rfl) ?_ _
                  refine NoPanic.normal ?_
                  go_wp2
                  go_roundw
                  case rel => exact ⟨k + 1, q2 + 1, orI s a.f2, by omega, by go_num, rfl, hor, HN, rfl⟩
                  case measure => simp [intOf]; omega
                have HN := Lib.hid (show orP (butP few y) (xs.drop (k + 1)) s = orP (butP few y) xs 0 by rw [← HT.out, HD.out, if_neg (by unfold butP; rw [decide_eq_true hy, Bool.and_comm]; simp)])
                have hy1 : (a.f0 == y) = true := by simp [hy]
                have hy2 : (a.f0 != y) = false := by simp [hy]
                clear hm hy
                go_wp2
                refine wp_region_noPanic ?_
                refine wp_region_held_drew (S := (fun w' => w'.cell? ⟨b, off + k * 5, none⟩ = some (.int .i64 a.f0) ∧ w'.cell? ⟨bf, of_ + l, none⟩ = some (.int .i64 y))) (by kernel_rfl) (by exact ⟨hc0, hyd⟩) (fun hHeld => ?_)
                refine wpAnyH_take (i := 0) (v := ?_) rfl (by kernel_rfl) (by kernel_rfl) (by kernel_rfl) (fun _ _ _ h => h) (Or.inl ⟨by rfl, ?_⟩) (by assumption) ?_
                rotate_left
                · intro w hSw; (try dsimp only at hSw); go_simp; (try with_reducible rfl)
                (try simp only [Act.put, List.getElem_toArray, List.getElem_cons_zero, List.setIfInBounds_toArray, List.set_cons_zero, List.set_cons_succ])
                refine wpAnyH_take (i := 1) (v := ?_) rfl (by kernel_rfl) (by kernel_rfl) (by kernel_rfl) (fun _ _ _ h => h) (Or.inl ⟨by rfl, ?_⟩) (by assumption) ?_
                rotate_left
                · intro w hSw; (try dsimp only at hSw); go_simp; (try with_reducible rfl)
                (try simp only [Act.put, List.getElem_toArray, List.getElem_cons_zero, List.getElem_cons_succ, List.setIfInBounds_toArray, List.set_cons_zero, List.set_cons_succ])
                refine wpAnyH_take (i := 2) (v := ?_) rfl (by kernel_rfl) (by kernel_rfl) (by kernel_rfl) (fun _ _ _ h => h) (Or.inl ⟨by rfl, ?_⟩) (by assumption) ?_
                rotate_left
                · intro w hSw; (try dsimp only at hSw); go_simp; (try with_reducible rfl)
                (try simp only [Act.put, List.getElem_toArray, List.getElem_cons_zero, List.getElem_cons_succ, List.setIfInBounds_toArray, List.set_cons_zero, List.set_cons_succ])
                refine wpAnyH_take (i := 3) (v := ?_) rfl (by kernel_rfl) (by kernel_rfl) (by kernel_rfl) (fun _ _ _ h => h) (Or.inl ⟨by rfl, ?_⟩) (by assumption) ?_
                rotate_left
                · intro w hSw; (try dsimp only at hSw); go_simp; (try with_reducible rfl)
                (try simp only [Act.put, List.getElem_toArray, List.getElem_cons_zero, List.getElem_cons_succ, List.setIfInBounds_toArray, List.set_cons_zero, List.set_cons_succ])
                refine wpAnyH_take (i := 4) (v := ?_) rfl (by kernel_rfl) (by kernel_rfl) (by kernel_rfl) (fun _ _ _ h => h) (Or.inl ⟨by rfl, ?_⟩) (by assumption) ?_
                rotate_left
                · intro w hSw; (try dsimp only at hSw); go_simp; (try with_reducible rfl)
                (try simp only [Act.put, List.getElem_toArray, List.getElem_cons_zero, List.getElem_cons_succ, List.setIfInBounds_toArray, List.set_cons_zero, List.set_cons_succ])
                refine wpAnyH_take (i := 5) (v := ?_) rfl (by kernel_rfl) (by kernel_rfl) (by kernel_rfl) (fun _ _ _ h => h) (Or.inl ⟨by rfl, ?_⟩) (by assumption) ?_
                rotate_left
                · intro w hSw; (try dsimp only at hSw); go_simp; (try with_reducible rfl)
                (try simp only [Act.put, List.getElem_toArray, List.getElem_cons_zero, List.getElem_cons_succ, List.setIfInBounds_toArray, List.set_cons_zero, List.set_cons_succ])
                refine wpAnyH_ready (rs := [6]) (by kernel_rfl) (by simp) ?_
                refine AllReadyH.cons rfl (fun K hK => ?_) AllReadyH.nil
                go_simp
                ((with_reducible refine (rHas_eq _ _ _ _ few a.f0 _ true hrf HH).mono ?_); rintro e w5 ⟨rfl, rfl⟩; go_simp)
                refine hK.out _ _ (by exact ⟨hc0, hyd⟩) (fun hHeld => ?_)
                clear hK K
                (try simp only [Act.put, List.getElem_toArray, List.getElem_cons_zero, List.getElem_cons_succ, List.setIfInBounds_toArray, List.set_cons_zero, List.set_cons_succ])
                refine wpAnyH_take (i := 7) (v := ?_) rfl (by kernel_rfl) (by kernel_rfl) (by kernel_rfl) (fun _ _ _ h => h) (Or.inl ⟨by rfl, ?_⟩) (by assumption) ?_
                rotate_left
                · intro w hSw; (try dsimp only at hSw); go_simp; (try with_reducible rfl)
                (try simp only [Act.put, List.getElem_toArray, List.getElem_cons_zero, List.getElem_cons_succ, List.setIfInBounds_toArray, List.set_cons_zero, List.set_cons_succ])
                refine wpAnyH_take (i := 8) (v := ?_) rfl (by kernel_rfl) (by kernel_rfl) (by kernel_rfl) (fun _ _ _ h => h) (Or.inl ⟨by rfl, ?_⟩) (by assumption) ?_
                rotate_left
                · intro w hSw; (try dsimp only at hSw); go_simp; (try with_reducible rfl)
                (try simp only [Act.put, List.getElem_toArray, List.getElem_cons_zero, List.getElem_cons_succ, List.setIfInBounds_toArray, List.set_cons_zero, List.set_cons_succ])
                refine wpAnyH_take (i := 9) (v := ?_) rfl (by kernel_rfl) (by kernel_rfl) (by kernel_rfl) (fun _ _ _ h => h) (Or.inl ⟨by rfl, ?_⟩) (by assumption) ?_
                rotate_left
                · intro w hSw; (try dsimp only at hSw); go_simp; (try with_reducible rfl)
                (try simp only [Act.put, List.getElem_toArray, List.getElem_cons_zero, List.getElem_cons_succ, List.setIfInBounds_toArray, List.set_cons_zero, List.set_cons_succ])
                refine wpAnyH_take (i := 10) (v := ?_) rfl (by kernel_rfl) (by kernel_rfl) (by kernel_rfl) (fun _ _ _ h => h) (Or.inl ⟨by rfl, ?_⟩) (by assumption) ?_
                rotate_left
                · intro w hSw; (try dsimp only at hSw); go_simp; (try with_reducible rfl)
                (try simp only [Act.put, List.getElem_toArray, List.getElem_cons_zero, List.getElem_cons_succ, List.setIfInBounds_toArray, List.set_cons_zero, List.set_cons_succ])
                refine wpAnyH_take (i := 11) (v := ?_) rfl (by kernel_rfl) (by kernel_rfl) (by kernel_rfl) (fun _ _ _ h => h) (Or.inl ⟨by rfl, ?_⟩) (by assumption) ?_
                rotate_left
                · intro w hSw; (try dsimp only at hSw); go_simp; (try with_reducible rfl)
                (try simp only [Act.put, List.getElem_toArray, List.getElem_cons_zero, List.getElem_cons_succ, List.setIfInBounds_toArray, List.set_cons_zero, List.set_cons_succ])
                refine wpAnyH_take (i := 12) (v := ?_) rfl (by kernel_rfl) (by kernel_rfl) (by kernel_rfl) (fun _ _ _ h => h) (Or.inl ⟨by rfl, ?_⟩) (by assumption) ?_
                rotate_left
                · intro w hSw; (try dsimp only at hSw); go_simp; (try with_reducible rfl)
                (try simp only [Act.put, List.getElem_toArray, List.getElem_cons_zero, List.getElem_cons_succ, List.setIfInBounds_toArray, List.set_cons_zero, List.set_cons_succ])
                refine wpAnyH_take (i := 13) (v := ?_) rfl (by kernel_rfl) (by kernel_rfl) (by kernel_rfl) (fun _ _ _ h => h) (Or.inl ⟨by rfl, ?_⟩) (by assumption) ?_
                rotate_left
                · intro w hSw; (try dsimp only at hSw); go_simp; (try with_reducible rfl)
                (try simp only [Act.put, List.getElem_toArray, List.getElem_cons_zero, List.getElem_cons_succ, List.setIfInBounds_toArray, List.set_cons_zero, List.set_cons_succ])
                refine wpAnyH_take (i := 14) (v := ?_) rfl (by kernel_rfl) (by kernel_rfl) (by kernel_rfl) (fun _ _ _ h => h) (Or.inl ⟨by rfl, ?_⟩) (by assumption) ?_
                rotate_left
                · intro w hSw; (try dsimp only at hSw); go_simp; (try with_reducible rfl)
                (try simp only [Act.put, List.getElem_toArray, List.getElem_cons_zero, List.getElem_cons_succ, List.setIfInBounds_toArray, List.set_cons_zero, List.set_cons_succ])
                refine wpAnyH_take (i := 15) (v := ?_) rfl (by kernel_rfl) (by kernel_rfl) (by kernel_rfl) (fun _ _ _ h => h) (Or.inl ⟨by rfl, ?_⟩) (by assumption) ?_
                rotate_left
                · intro w hSw; (try dsimp only at hSw); go_simp; (try with_reducible rfl)
                (try simp only [Act.put, List.getElem_toArray, List.getElem_cons_zero, List.getElem_cons_succ, List.setIfInBounds_toArray, List.set_cons_zero, List.set_cons_succ])
                refine wpAnyH_take (i := 16) (v := ?_) rfl (by kernel_rfl) (by kernel_rfl) (by kernel_rfl) (fun _ _ _ h => h) (Or.inl ⟨by rfl, ?_⟩) (by assumption) ?_
                rotate_left
                · intro w hSw; (try dsimp only at hSw); go_simp; (try with_reducible rfl)
                (try simp only [Act.put, List.getElem_toArray, List.getElem_cons_zero, List.getElem_cons_succ, List.setIfInBounds_toArray, List.set_cons_zero, List.set_cons_succ])
                refine wpAnyH_take (i := 17) (v := ?_) rfl (by kernel_rfl) (by kernel_rfl) (by kernel_rfl) (fun _ _ _ h => h) (Or.inl ⟨by rfl, ?_⟩) (by assumption) ?_
                rotate_left
                · intro w hSw; (try dsimp only at hSw); go_simp; (try with_reducible rfl)
                (try simp only [Act.put, List.getElem_toArray, List.getElem_cons_zero, List.getElem_cons_succ, List.setIfInBounds_toArray, List.set_cons_zero, List.set_cons_succ])
                refine wpAnyH_take (i := 18) (v := ?_) rfl (by kernel_rfl) (by kernel_rfl) (by kernel_rfl) (fun _ _ _ h => h) (Or.inl ⟨by rfl, ?_⟩) (by assumption) ?_
                rotate_left
                · intro w hSw; (try dsimp only at hSw); go_simp; (try with_reducible rfl)
                (try simp only [Act.put, List.getElem_toArray, List.getElem_cons_zero, List.getElem_cons_succ, List.setIfInBounds_toArray, List.set_cons_zero, List.set_cons_succ])
                refine wpAnyH_done (by kernel_rfl) ?_ _
                refine NoPanic.normal ?_
                go_wp2
                go_roundw
                case rel => exact ⟨k + 1, q2 + 1, s, by omega, by go_num, rfl, hs15, HN, rfl⟩
                case measure => simp [intOf]; omega
              · obtain rfl : k = xs.length := by omega
                have hB3 : (bits BinOp.and IntKind.i64 s nd == nd) = false := by have h1 := HT.out; rw [List.drop_length] at h1; have h2 := HK.out; rw [← show s = orP (butP few y) xs 0 from h1] at h2; simpa [hasB, andI] using h2
                clear HT
                go_wp2
                go_roundw
                case rel => exact ⟨l + 1, q2, by omega, by go_num, rfl⟩
                case measure => simp [intOf]; omega
          · skip
            clear H1 H2 H5 H6 HA
            replace OX := OX.all (low_drewN _ q)
            replace OF := OF.all (low_drewN _ q)
            replace R := R.all (low_drewN _ q) HB.size
            replace HB := HB.trans ((low_drewN _ q).mono HB.size)
            generalize W0.drewN q = W1 at *
            go_wp2_with fail
            refine (hWi.out _ _ _ OX.rd).mono ?_
            rintro e w5 ⟨A5, c5, rfl, own, hb⟩
            replace OX := OX.all hb
            replace OF := OF.all hb
            replace R := R.all hb HB.size
            have OA := own.mono HB.size
            clear own
            replace HB := HB.trans (hb.mono HB.size)
            clear hb
            go_wp2_with fail
            refine (hWs.out _ _ _ OX.rd).mono ?_
            rintro e w6 ⟨A6, c6, rfl, own, hb⟩
            replace OX := OX.all hb
            replace OF := OF.all hb
            replace OA := OA.all hb
            replace R := R.all hb HB.size
            have OB := own.mono HB.size
            clear own
            replace HB := HB.trans (hb.mono HB.size)
            clear hb
            clear hWi hWs
            clear OX
            go_wp2_with fail
            refine (rInts_low _ _ _ _ _ _ _ _ wi _ OA.rd OB.rd).mono ?_
            rintro e w7 ⟨rfl, hb⟩
            replace OF := OF.all hb
            replace OA := OA.all hb
            replace OB := OB.all hb
            replace R := R.all hb HB.size
            replace HB := HB.trans (hb.mono HB.size)
            clear hb
            clear OA OB
            clear OF
            by_cases hwl : 0 < wi.length
            · have hfl : few.length = 1 := H4.out (List.length_pos_iff.1 hwl)
              have hf1 : ((few.length : Int) == 1) = true := by simp; omega
              have hf2 : ((few.length : Int) != 1) = false := by rw [bne, hf1]; rfl
              have hwl1 : (0 : Int) < (wi.length : Int) := by omega
              clear hfl H4
              go_wp2_with fail
              refine (drawTeachSkill_any A n c w.heap.size _ R HB.size hn).mono ?_
              rintro e w8 ⟨A7, c7, ls, te, pu, sk, rfl, hll, hte, hpu, hsk, own, hb⟩
              replace R := R.all hb HB.size
              have OL := own.mono HB.size
              clear own
              replace HB := HB.trans (hb.mono HB.size)
              clear hb
              obtain ⟨tz, htz⟩ : ∃ z, (teach11 ls te pu sk).1 = z := ⟨_, rfl⟩
              obtain ⟨tb, htb⟩ : ∃ z, (teach11 ls te pu sk).2 = z := ⟨_, rfl⟩
              obtain ⟨az, haz⟩ : ∃ z, (with11 tz sk).1 = z := ⟨_, rfl⟩
              obtain ⟨ab, hab⟩ : ∃ z, (with11 tz sk).2 = z := ⟨_, rfl⟩
              have hTi : Hid (∀ (w : World) (A : Option Addr) (c : Nat), RdF weaverF w w.heap.size A ls.length c ls → Calls Try.prog 29 #[.slice A ls.length c, .int .i64 te, .int .i64 pu, .int .i64 sk] w (OutF weaverF w tz tb)) := Lib.hid fun w A c h => (by have := implTeachSkill_any A _ c _ ls te pu sk w h (Nat.le_refl _); rw [htz, htb] at this; exact this)
              have hTs : Hid (∀ (w : World) (A : Option Addr) (c : Nat), RdF weaverF w w.heap.size A ls.length c ls → Calls Try.prog 30 #[.slice A ls.length c, .int .i64 te, .int .i64 pu, .int .i64 sk] w (OutF weaverF w tz tb)) := Lib.hid fun w A c h => (by have := specTeachSkill_any A _ c _ ls te pu sk w h (Nat.le_refl _); rw [htz, htb] at this; exact this)
              have hAi : Hid (∀ (w : World) (A : Option Addr) (c : Nat), RdF weaverF w w.heap.size A tz.length c tz → Calls Try.prog 26 #[.slice A tz.length c, .int .i64 sk] w (OutInts w az ab)) := Lib.hid fun w A c h => (by have := implWithSkills_any A _ c _ tz sk w h (Nat.le_refl _); rw [haz, hab] at this; exact this)
              have HTB : Hid (tb = true → ab = true ∧ pu ∈ az ∧ te ∈ az) := Lib.hid fun ho => by
                obtain ⟨h1, h2, h3⟩ := teach_has (xs := ls) (t := te) (p := pu) (s := sk) (zs := tz) (by rw [← htz, ← ho, ← htb])
                rw [h1] at haz hab
                exact ⟨hab.symm, haz ▸ h2, haz ▸ h3⟩
              clear htz htb haz hab hll hte hpu hsk
              go_wp2_with fail
              refine (hTi.out _ _ _ OL.rd).mono ?_
              rintro e w9 ⟨A8, c8, rfl, own, hb⟩
              replace OL := OL.all hb
              replace R := R.all hb HB.size
              have OT := own.mono HB.size
              clear own
              replace HB := HB.trans (hb.mono HB.size)
              clear hb
              go_wp2_with fail
              refine (hTs.out _ _ _ OL.rd).mono ?_
              rintro e w10 ⟨A9, c9, rfl, own, hb⟩
              replace OL := OL.all hb
              replace OT := OT.all hb
              replace R := R.all hb HB.size
              have OU := own.mono HB.size
              clear own
              replace HB := HB.trans (hb.mono HB.size)
              clear hb
              clear hTi hTs
              clear OL
              go_wp2_with fail
              refine (rWeavers_same _ _ _ _ _ _ _ _ tz _ OT.rd OU.rd).mono ?_
              rintro e w11 ⟨rfl, hb⟩
              replace OT := OT.all hb
              replace OU := OU.all hb
              replace R := R.all hb HB.size
              replace HB := HB.trans (hb.mono HB.size)
              clear hb
              clear OU
              cases tb
              case false =>
                clear HTB hAi
                clear OT
                go_wp2_with fail
                refine (drawIsWeaver_any A n c w.heap.size _ R HB.size hn).mono ?_
                rintro e w12 ⟨s, rfl, hs, hb⟩
                replace R := R.all hb HB.size
                replace HB := HB.trans (hb.mono HB.size)
                clear hb
                replace R := R.alloc HB.size (.cells #[.int .i64 s.f0, .string s.f1, .int .i64 s.f2, .int .i64 s.f3, .int .i64 s.f4] 40)
                have bS := Blk.new w12 #[.int .i64 s.f0, .string s.f1, .int .i64 s.f2, .int .i64 s.f3, .int .i64 s.f4] 40
                replace HB := HB.alloc HB.size (.cells #[.int .i64 s.f0, .string s.f1, .int .i64 s.f2, .int .i64 s.f3, .int .i64 s.f4] 40)
                obtain ⟨lb, hlb⟩ : ∃ z, weaverB s = z := ⟨_, rfl⟩
                have HLB := Lib.hid hlb
                have hms := hs.2.1
                clear hlb hs
                have ebS0 := bS.cell 0
                have ebS1 := bS.cell 1
                have ebS2 := bS.cell 2
                have ebS3 := bS.cell 3
                have ebS4 := bS.cell 4
                have zbS := bS.lt
                have hPz := bS.lt
                go_wp2
                refine wp_region_noPanic ?_
                refine wp_region_held_drew (S := (fun w' => w'.cell? ⟨w12.heap.size, 0, none⟩ = some (.int .i64 s.f0) ∧ w'.cell? ⟨w12.heap.size, 1, none⟩ = some (.string s.f1) ∧ w'.cell? ⟨w12.heap.size, 2, none⟩ = some (.int .i64 s.f2) ∧ w'.cell? ⟨w12.heap.size, 3, none⟩ = some (.int .i64 s.f3) ∧ w'.cell? ⟨w12.heap.size, 4, none⟩ = some (.int .i64 s.f4))) (by kernel_rfl) (by exact ⟨bS.cell 0, bS.cell 1, bS.cell 2, bS.cell 3, bS.cell 4⟩) (fun hHeld => ?_)
                refine wpAnyH_take (i := 0) (v := ?_) rfl (by kernel_rfl) (by kernel_rfl) (by kernel_rfl) (fun _ _ _ h => h) (Or.inl ⟨by rfl, ?_⟩) (by assumption) ?_
                rotate_left
                · intro w hSw; (try dsimp only at hSw); go_simp; (try with_reducible rfl)
                (try simp only [Act.put, List.getElem_toArray, List.getElem_cons_zero, List.setIfInBounds_toArray, List.set_cons_zero, List.set_cons_succ])
                refine wpAnyH_take (i := 2) (v := ?_) rfl (by kernel_rfl) (by kernel_rfl) (by kernel_rfl) (fun _ _ _ h => h) (Or.inl ⟨by rfl, ?_⟩) (by assumption) ?_
                rotate_left
                · intro w hSw; (try dsimp only at hSw); go_simp; (try with_reducible rfl)
                (try simp only [Act.put, List.getElem_toArray, List.getElem_cons_zero, List.getElem_cons_succ, List.setIfInBounds_toArray, List.set_cons_zero, List.set_cons_succ])
                refine wpAnyH_ready (rs := [1]) (by kernel_rfl) (by simp) ?_
                refine AllReadyH.cons rfl (fun K hK => ?_) AllReadyH.nil
                go_simp
                (first | ((with_reducible refine (implIsWeaver_eq s _ hms lb HLB.out).mono ?_); rintro e w5 ⟨rfl, hb5⟩; (try replace hb5 := below_drew' hb5); replace bS := bS.all hb5; replace HB := HB.trans (hb5.mono HB.size); clear hb5; go_simp) | ((with_reducible refine (specIsWeaver_eq s _ hms lb HLB.out).mono ?_); rintro e w5 ⟨rfl, hb5⟩; (try replace hb5 := below_drew' hb5); replace bS := bS.all hb5; replace HB := HB.trans (hb5.mono HB.size); clear hb5; go_simp))
                refine hK.out _ _ (by exact ⟨bS.cell 0, bS.cell 1, bS.cell 2, bS.cell 3, bS.cell 4⟩) (fun hHeld => ?_)
                clear hK K
                (try simp only [Act.put, List.getElem_toArray, List.getElem_cons_zero, List.getElem_cons_succ, List.setIfInBounds_toArray, List.set_cons_zero, List.set_cons_succ])
                refine wpAnyH_ready (rs := [3]) (by kernel_rfl) (by simp) ?_
                refine AllReadyH.cons rfl (fun K hK => ?_) AllReadyH.nil
                go_simp
                (first | ((with_reducible refine (implIsWeaver_eq s _ hms lb HLB.out).mono ?_); rintro e w5 ⟨rfl, hb5⟩; (try replace hb5 := below_drew' hb5); replace bS := bS.all hb5; replace HB := HB.trans (hb5.mono HB.size); clear hb5; go_simp) | ((with_reducible refine (specIsWeaver_eq s _ hms lb HLB.out).mono ?_); rintro e w5 ⟨rfl, hb5⟩; (try replace hb5 := below_drew' hb5); replace bS := bS.all hb5; replace HB := HB.trans (hb5.mono HB.size); clear hb5; go_simp))
                refine hK.out _ _ (by exact ⟨bS.cell 0, bS.cell 1, bS.cell 2, bS.cell 3, bS.cell 4⟩) (fun hHeld => ?_)
                clear hK K
                (try simp only [Act.put, List.getElem_toArray, List.getElem_cons_zero, List.getElem_cons_succ, List.setIfInBounds_toArray, List.set_cons_zero, List.set_cons_succ])
                refine wpAnyH_take (i := 4) (v := ?_) rfl (by kernel_rfl) (by kernel_rfl) (by kernel_rfl) (fun _ _ _ h => h) (Or.inl ⟨by rfl, ?_⟩) (by assumption) ?_
                rotate_left
                · intro w hSw; (try dsimp only at hSw); go_simp; (try with_reducible rfl)
                (try simp only [Act.put, List.getElem_toArray, List.getElem_cons_zero, List.getElem_cons_succ, List.setIfInBounds_toArray, List.set_cons_zero, List.set_cons_succ])
                refine wpAnyH_take (i := 5) (v := ?_) rfl (by kernel_rfl) (by kernel_rfl) (by kernel_rfl) (fun _ _ _ h => h) (Or.inl ⟨by rfl, ?_⟩) (by assumption) ?_
                rotate_left
                · intro w hSw; (try dsimp only at hSw); go_simp; (try with_reducible rfl)
                (try simp only [Act.put, List.getElem_toArray, List.getElem_cons_zero, List.getElem_cons_succ, List.setIfInBounds_toArray, List.set_cons_zero, List.set_cons_succ])
                refine wpAnyH_done (by kernel_rfl) ?_ _
                refine NoPanic.normal ?_
                go_wp2
                go_ret
                exact ⟨ret_bool (by simp), HB⟩
              case true =>
                obtain ⟨rfl, m1, m2⟩ := HTB.out rfl
                have M1 := Lib.hid (decide_eq_true m1)
                have M2 := Lib.hid (decide_eq_true m2)
                clear HTB m1 m2
                go_wp2_with fail
                refine (hAi.out _ _ _ OT.rd).mono ?_
                rintro e w12 ⟨A10, c10, rfl, own, hb⟩
                replace OT := OT.all hb
                replace R := R.all hb HB.size
                have OZ := own.mono HB.size
                clear own
                replace HB := HB.trans (hb.mono HB.size)
                clear hb
                clear hAi
                have hrz := OZ.rd
                go_wp2_with fail
                refine (rHas_eq _ _ _ _ az pu _ true hrz M1).mono ?_
                rintro e w' ⟨rfl, rfl⟩
                go_wp2_with fail
                refine (rHas_eq _ _ _ _ az te _ true hrz M2).mono ?_
                rintro e w' ⟨rfl, rfl⟩
                clear hrz M1 M2
                clear OT OZ
                go_wp2_with fail
                refine (drawIsWeaver_any A n c w.heap.size _ R HB.size hn).mono ?_
                rintro e w13 ⟨s, rfl, hs, hb⟩
                replace R := R.all hb HB.size
                replace HB := HB.trans (hb.mono HB.size)
                clear hb
                replace R := R.alloc HB.size (.cells #[.int .i64 s.f0, .string s.f1, .int .i64 s.f2, .int .i64 s.f3, .int .i64 s.f4] 40)
                have bS := Blk.new w13 #[.int .i64 s.f0, .string s.f1, .int .i64 s.f2, .int .i64 s.f3, .int .i64 s.f4] 40
                replace HB := HB.alloc HB.size (.cells #[.int .i64 s.f0, .string s.f1, .int .i64 s.f2, .int .i64 s.f3, .int .i64 s.f4] 40)
                obtain ⟨lb, hlb⟩ : ∃ z, weaverB s = z := ⟨_, rfl⟩
                have HLB := Lib.hid hlb
                have hms := hs.2.1
                clear hlb hs
                have ebS0 := bS.cell 0
                have ebS1 := bS.cell 1
                have ebS2 := bS.cell 2
                have ebS3 := bS.cell 3
                have ebS4 := bS.cell 4
                have zbS := bS.lt
                have hPz := bS.lt
                go_wp2
                refine wp_region_noPanic ?_
                refine wp_region_held_drew (S := (fun w' => w'.cell? ⟨w13.heap.size, 0, none⟩ = some (.int .i64 s.f0) ∧ w'.cell? ⟨w13.heap.size, 1, none⟩ = some (.string s.f1) ∧ w'.cell? ⟨w13.heap.size, 2, none⟩ = some (.int .i64 s.f2) ∧ w'.cell? ⟨w13.heap.size, 3, none⟩ = some (.int .i64 s.f3) ∧ w'.cell? ⟨w13.heap.size, 4, none⟩ = some (.int .i64 s.f4))) (by kernel_rfl) (by exact ⟨bS.cell 0, bS.cell 1, bS.cell 2, bS.cell 3, bS.cell 4⟩) (fun hHeld => ?_)
                refine wpAnyH_take (i := 0) (v := ?_) rfl (by kernel_rfl) (by kernel_rfl) (by kernel_rfl) (fun _ _ _ h => h) (Or.inl ⟨by rfl, ?_⟩) (by assumption) ?_
                rotate_left
                · intro w hSw; (try dsimp only at hSw); go_simp; (try with_reducible rfl)
                (try simp only [Act.put, List.getElem_toArray, List.getElem_cons_zero, List.setIfInBounds_toArray, List.set_cons_zero, List.set_cons_succ])
                refine wpAnyH_take (i := 2) (v := ?_) rfl (by kernel_rfl) (by kernel_rfl) (by kernel_rfl) (fun _ _ _ h => h) (Or.inl ⟨by rfl, ?_⟩) (by assumption) ?_
                rotate_left
                · intro w hSw; (try dsimp only at hSw); go_simp; (try with_reducible rfl)
                (try simp only [Act.put, List.getElem_toArray, List.getElem_cons_zero, List.getElem_cons_succ, List.setIfInBounds_toArray, List.set_cons_zero, List.set_cons_succ])
                refine wpAnyH_ready (rs := [1]) (by kernel_rfl) (by simp) ?_
                refine AllReadyH.cons rfl (fun K hK => ?_) AllReadyH.nil
                go_simp
                (first | ((with_reducible refine (implIsWeaver_eq s _ hms lb HLB.out).mono ?_); rintro e w5 ⟨rfl, hb5⟩; (try replace hb5 := below_drew' hb5); replace bS := bS.all hb5; replace HB := HB.trans (hb5.mono HB.size); clear hb5; go_simp) | ((with_reducible refine (specIsWeaver_eq s _ hms lb HLB.out).mono ?_); rintro e w5 ⟨rfl, hb5⟩; (try replace hb5 := below_drew' hb5); replace bS := bS.all hb5; replace HB := HB.trans (hb5.mono HB.size); clear hb5; go_simp))
                refine hK.out _ _ (by exact ⟨bS.cell 0, bS.cell 1, bS.cell 2, bS.cell 3, bS.cell 4⟩) (fun hHeld => ?_)
                clear hK K
                (try simp only [Act.put, List.getElem_toArray, List.getElem_cons_zero, List.getElem_cons_succ, List.setIfInBounds_toArray, List.set_cons_zero, List.set_cons_succ])
                refine wpAnyH_ready (rs := [3]) (by kernel_rfl) (by simp) ?_
                refine AllReadyH.cons rfl (fun K hK => ?_) AllReadyH.nil
                go_simp
                (first | ((with_reducible refine (implIsWeaver_eq s _ hms lb HLB.out).mono ?_); rintro e w5 ⟨rfl, hb5⟩; (try replace hb5 := below_drew' hb5); replace bS := bS.all hb5; replace HB := HB.trans (hb5.mono HB.size); clear hb5; go_simp) | ((with_reducible refine (specIsWeaver_eq s _ hms lb HLB.out).mono ?_); rintro e w5 ⟨rfl, hb5⟩; (try replace hb5 := below_drew' hb5); replace bS := bS.all hb5; replace HB := HB.trans (hb5.mono HB.size); clear hb5; go_simp))
                refine hK.out _ _ (by exact ⟨bS.cell 0, bS.cell 1, bS.cell 2, bS.cell 3, bS.cell 4⟩) (fun hHeld => ?_)
                clear hK K
                (try simp only [Act.put, List.getElem_toArray, List.getElem_cons_zero, List.getElem_cons_succ, List.setIfInBounds_toArray, List.set_cons_zero, List.set_cons_succ])
                refine wpAnyH_take (i := 4) (v := ?_) rfl (by kernel_rfl) (by kernel_rfl) (by kernel_rfl) (fun _ _ _ h => h) (Or.inl ⟨by rfl, ?_⟩) (by assumption) ?_
                rotate_left
                · intro w hSw; (try dsimp only at hSw); go_simp; (try with_reducible rfl)
                (try simp only [Act.put, List.getElem_toArray, List.getElem_cons_zero, List.getElem_cons_succ, List.setIfInBounds_toArray, List.set_cons_zero, List.set_cons_succ])
                refine wpAnyH_take (i := 5) (v := ?_) rfl (by kernel_rfl) (by kernel_rfl) (by kernel_rfl) (fun _ _ _ h => h) (Or.inl ⟨by rfl, ?_⟩) (by assumption) ?_
                rotate_left
                · intro w hSw; (try dsimp only at hSw); go_simp; (try with_reducible rfl)
                (try simp only [Act.put, List.getElem_toArray, List.getElem_cons_zero, List.getElem_cons_succ, List.setIfInBounds_toArray, List.set_cons_zero, List.set_cons_succ])
                refine wpAnyH_done (by kernel_rfl) ?_ _
                refine NoPanic.normal ?_
                go_wp2
                go_ret
                exact ⟨ret_bool (by simp), HB⟩
            · have hwl1 : ¬ (0 : Int) < (wi.length : Int) := by omega
              clear H4
              go_wp2_with fail
              refine (drawTeachSkill_any A n c w.heap.size _ R HB.size hn).mono ?_
              rintro e w8 ⟨A7, c7, ls, te, pu, sk, rfl, hll, hte, hpu, hsk, own, hb⟩
              replace R := R.all hb HB.size
              have OL := own.mono HB.size
              clear own
              replace HB := HB.trans (hb.mono HB.size)
              clear hb
              obtain ⟨tz, htz⟩ : ∃ z, (teach11 ls te pu sk).1 = z := ⟨_, rfl⟩
              obtain ⟨tb, htb⟩ : ∃ z, (teach11 ls te pu sk).2 = z := ⟨_, rfl⟩
              obtain ⟨az, haz⟩ : ∃ z, (with11 tz sk).1 = z := ⟨_, rfl⟩
              obtain ⟨ab, hab⟩ : ∃ z, (with11 tz sk).2 = z := ⟨_, rfl⟩
              have hTi : Hid (∀ (w : World) (A : Option Addr) (c : Nat), RdF weaverF w w.heap.size A ls.length c ls → Calls Try.prog 29 #[.slice A ls.length c, .int .i64 te, .int .i64 pu, .int .i64 sk] w (OutF weaverF w tz tb)) := Lib.hid fun w A c h => (by have := implTeachSkill_any A _ c _ ls te pu sk w h (Nat.le_refl _); rw [htz, htb] at this; exact this)
              have hTs : Hid (∀ (w : World) (A : Option Addr) (c : Nat), RdF weaverF w w.heap.size A ls.length c ls → Calls Try.prog 30 #[.slice A ls.length c, .int .i64 te, .int .i64 pu, .int .i64 sk] w (OutF weaverF w tz tb)) := Lib.hid fun w A c h => (by have := specTeachSkill_any A _ c _ ls te pu sk w h (Nat.le_refl _); rw [htz, htb] at this; exact this)
              have hAi : Hid (∀ (w : World) (A : Option Addr) (c : Nat), RdF weaverF w w.heap.size A tz.length c tz → Calls Try.prog 26 #[.slice A tz.length c, .int .i64 sk] w (OutInts w az ab)) := Lib.hid fun w A c h => (by have := implWithSkills_any A _ c _ tz sk w h (Nat.le_refl _); rw [haz, hab] at this; exact this)
              have HTB : Hid (tb = true → ab = true ∧ pu ∈ az ∧ te ∈ az) := Lib.hid fun ho => by
                obtain ⟨h1, h2, h3⟩ := teach_has (xs := ls) (t := te) (p := pu) (s := sk) (zs := tz) (by rw [← htz, ← ho, ← htb])
                rw [h1] at haz hab
                exact ⟨hab.symm, haz ▸ h2, haz ▸ h3⟩
              clear htz htb haz hab hll hte hpu hsk
              go_wp2_with fail
              refine (hTi.out _ _ _ OL.rd).mono ?_
              rintro e w9 ⟨A8, c8, rfl, own, hb⟩
              replace OL := OL.all hb
              replace R := R.all hb HB.size
              have OT := own.mono HB.size
              clear own
              replace HB := HB.trans (hb.mono HB.size)
              clear hb
              go_wp2_with fail
              refine (hTs.out _ _ _ OL.rd).mono ?_
              rintro e w10 ⟨A9, c9, rfl, own, hb⟩
              replace OL := OL.all hb
              replace OT := OT.all hb
              replace R := R.all hb HB.size
              have OU := own.mono HB.size
              clear own
              replace HB := HB.trans (hb.mono HB.size)
              clear hb
              clear hTi hTs
              clear OL
              go_wp2_with fail
              refine (rWeavers_same _ _ _ _ _ _ _ _ tz _ OT.rd OU.rd).mono ?_
              rintro e w11 ⟨rfl, hb⟩
              replace OT := OT.all hb
              replace OU := OU.all hb
              replace R := R.all hb HB.size
              replace HB := HB.trans (hb.mono HB.size)
              clear hb
              clear OU
              cases tb
              case false =>
                clear HTB hAi
                clear OT
                go_wp2_with fail
                refine (drawIsWeaver_any A n c w.heap.size _ R HB.size hn).mono ?_
                rintro e w12 ⟨s, rfl, hs, hb⟩
                replace R := R.all hb HB.size
                replace HB := HB.trans (hb.mono HB.size)
                clear hb
                replace R := R.alloc HB.size (.cells #[.int .i64 s.f0, .string s.f1, .int .i64 s.f2, .int .i64 s.f3, .int .i64 s.f4] 40)
                have bS := Blk.new w12 #[.int .i64 s.f0, .string s.f1, .int .i64 s.f2, .int .i64 s.f3, .int .i64 s.f4] 40
                replace HB := HB.alloc HB.size (.cells #[.int .i64 s.f0, .string s.f1, .int .i64 s.f2, .int .i64 s.f3, .int .i64 s.f4] 40)
                obtain ⟨lb, hlb⟩ : ∃ z, weaverB s = z := ⟨_, rfl⟩
                have HLB := Lib.hid hlb
                have hms := hs.2.1
                clear hlb hs
                have ebS0 := bS.cell 0
                have ebS1 := bS.cell 1
                have ebS2 := bS.cell 2
                have ebS3 := bS.cell 3
                have ebS4 := bS.cell 4
                have zbS := bS.lt
                have hPz := bS.lt
                go_wp2
                refine wp_region_noPanic ?_
                refine wp_region_held_drew (S := (fun w' => w'.cell? ⟨w12.heap.size, 0, none⟩ = some (.int .i64 s.f0) ∧ w'.cell? ⟨w12.heap.size, 1, none⟩ = some (.string s.f1) ∧ w'.cell? ⟨w12.heap.size, 2, none⟩ = some (.int .i64 s.f2) ∧ w'.cell? ⟨w12.heap.size, 3, none⟩ = some (.int .i64 s.f3) ∧ w'.cell? ⟨w12.heap.size, 4, none⟩ = some (.int .i64 s.f4))) (by kernel_rfl) (by exact ⟨bS.cell 0, bS.cell 1, bS.cell 2, bS.cell 3, bS.cell 4⟩) (fun hHeld => ?_)
                refine wpAnyH_take (i := 0) (v := ?_) rfl (by kernel_rfl) (by kernel_rfl) (by kernel_rfl) (fun _ _ _ h => h) (Or.inl ⟨by rfl, ?_⟩) (by assumption) ?_
                rotate_left
                · intro w hSw; (try dsimp only at hSw); go_simp; (try with_reducible rfl)
                (try simp only [Act.put, List.getElem_toArray, List.getElem_cons_zero, List.setIfInBounds_toArray, List.set_cons_zero, List.set_cons_succ])
                refine wpAnyH_take (i := 2) (v := ?_) rfl (by kernel_rfl) (by kernel_rfl) (by kernel_rfl) (fun _ _ _ h => h) (Or.inl ⟨by rfl, ?_⟩) (by assumption) ?_
                rotate_left
                · intro w hSw; (try dsimp only at hSw); go_simp; (try with_reducible rfl)
                (try simp only [Act.put, List.getElem_toArray, List.getElem_cons_zero, List.getElem_cons_succ, List.setIfInBounds_toArray, List.set_cons_zero, List.set_cons_succ])
                refine wpAnyH_ready (rs := [1]) (by kernel_rfl) (by simp) ?_
                refine AllReadyH.cons rfl (fun K hK => ?_) AllReadyH.nil
                go_simp
                (first | ((with_reducible refine (implIsWeaver_eq s _ hms lb HLB.out).mono ?_); rintro e w5 ⟨rfl, hb5⟩; (try replace hb5 := below_drew' hb5); replace bS := bS.all hb5; replace HB := HB.trans (hb5.mono HB.size); clear hb5; go_simp) | ((with_reducible refine (specIsWeaver_eq s _ hms lb HLB.out).mono ?_); rintro e w5 ⟨rfl, hb5⟩; (try replace hb5 := below_drew' hb5); replace bS := bS.all hb5; replace HB := HB.trans (hb5.mono HB.size); clear hb5; go_simp))
                refine hK.out _ _ (by exact ⟨bS.cell 0, bS.cell 1, bS.cell 2, bS.cell 3, bS.cell 4⟩) (fun hHeld => ?_)
                clear hK K
                (try simp only [Act.put, List.getElem_toArray, List.getElem_cons_zero, List.getElem_cons_succ, List.setIfInBounds_toArray, List.set_cons_zero, List.set_cons_succ])
                refine wpAnyH_ready (rs := [3]) (by kernel_rfl) (by simp) ?_
                refine AllReadyH.cons rfl (fun K hK => ?_) AllReadyH.nil
                go_simp
                (first | ((with_reducible refine (implIsWeaver_eq s _ hms lb HLB.out).mono ?_); rintro e w5 ⟨rfl, hb5⟩; (try replace hb5 := below_drew' hb5); replace bS := bS.all hb5; replace HB := HB.trans (hb5.mono HB.size); clear hb5; go_simp) | ((with_reducible refine (specIsWeaver_eq s _ hms lb HLB.out).mono ?_); rintro e w5 ⟨rfl, hb5⟩; (try replace hb5 := below_drew' hb5); replace bS := bS.all hb5; replace HB := HB.trans (hb5.mono HB.size); clear hb5; go_simp))
                refine hK.out _ _ (by exact ⟨bS.cell 0, bS.cell 1, bS.cell 2, bS.cell 3, bS.cell 4⟩) (fun hHeld => ?_)
                clear hK K
                (try simp only [Act.put, List.getElem_toArray, List.getElem_cons_zero, List.getElem_cons_succ, List.setIfInBounds_toArray, List.set_cons_zero, List.set_cons_succ])
                refine wpAnyH_take (i := 4) (v := ?_) rfl (by kernel_rfl) (by kernel_rfl) (by kernel_rfl) (fun _ _ _ h => h) (Or.inl ⟨by rfl, ?_⟩) (by assumption) ?_
                rotate_left
                · intro w hSw; (try dsimp only at hSw); go_simp; (try with_reducible rfl)
                (try simp only [Act.put, List.getElem_toArray, List.getElem_cons_zero, List.getElem_cons_succ, List.setIfInBounds_toArray, List.set_cons_zero, List.set_cons_succ])
                refine wpAnyH_take (i := 5) (v := ?_) rfl (by kernel_rfl) (by kernel_rfl) (by kernel_rfl) (fun _ _ _ h => h) (Or.inl ⟨by rfl, ?_⟩) (by assumption) ?_
                rotate_left
                · intro w hSw; (try dsimp only at hSw); go_simp; (try with_reducible rfl)
                (try simp only [Act.put, List.getElem_toArray, List.getElem_cons_zero, List.getElem_cons_succ, List.setIfInBounds_toArray, List.set_cons_zero, List.set_cons_succ])
                refine wpAnyH_done (by kernel_rfl) ?_ _
                refine NoPanic.normal ?_
                go_wp2
                go_ret
                exact ⟨ret_bool (by simp), HB⟩
              case true =>
                obtain ⟨rfl, m1, m2⟩ := HTB.out rfl
                have M1 := Lib.hid (decide_eq_true m1)
                have M2 := Lib.hid (decide_eq_true m2)
                clear HTB m1 m2
                go_wp2_with fail
                refine (hAi.out _ _ _ OT.rd).mono ?_
                rintro e w12 ⟨A10, c10, rfl, own, hb⟩
                replace OT := OT.all hb
                replace R := R.all hb HB.size
                have OZ := own.mono HB.size
                clear own
                replace HB := HB.trans (hb.mono HB.size)
                clear hb
                clear hAi
                have hrz := OZ.rd
                go_wp2_with fail
                refine (rHas_eq _ _ _ _ az pu _ true hrz M1).mono ?_
                rintro e w' ⟨rfl, rfl⟩
                go_wp2_with fail
                refine (rHas_eq _ _ _ _ az te _ true hrz M2).mono ?_
                rintro e w' ⟨rfl, rfl⟩
                clear hrz M1 M2
                clear OT OZ
                go_wp2_with fail
                refine (drawIsWeaver_any A n c w.heap.size _ R HB.size hn).mono ?_
                rintro e w13 ⟨s, rfl, hs, hb⟩
                replace R := R.all hb HB.size
                replace HB := HB.trans (hb.mono HB.size)
                clear hb
                replace R := R.alloc HB.size (.cells #[.int .i64 s.f0, .string s.f1, .int .i64 s.f2, .int .i64 s.f3, .int .i64 s.f4] 40)
                have bS := Blk.new w13 #[.int .i64 s.f0, .string s.f1, .int .i64 s.f2, .int .i64 s.f3, .int .i64 s.f4] 40
                replace HB := HB.alloc HB.size (.cells #[.int .i64 s.f0, .string s.f1, .int .i64 s.f2, .int .i64 s.f3, .int .i64 s.f4] 40)
                obtain ⟨lb, hlb⟩ : ∃ z, weaverB s = z := ⟨_, rfl⟩
                have HLB := Lib.hid hlb
                have hms := hs.2.1
                clear hlb hs
                have ebS0 := bS.cell 0
                have ebS1 := bS.cell 1
                have ebS2 := bS.cell 2
                have ebS3 := bS.cell 3
                have ebS4 := bS.cell 4
                have zbS := bS.lt
                have hPz := bS.lt
                go_wp2
                refine wp_region_noPanic ?_
                refine wp_region_held_drew (S := (fun w' => w'.cell? ⟨w13.heap.size, 0, none⟩ = some (.int .i64 s.f0) ∧ w'.cell? ⟨w13.heap.size, 1, none⟩ = some (.string s.f1) ∧ w'.cell? ⟨w13.heap.size, 2, none⟩ = some (.int .i64 s.f2) ∧ w'.cell? ⟨w13.heap.size, 3, none⟩ = some (.int .i64 s.f3) ∧ w'.cell? ⟨w13.heap.size, 4, none⟩ = some (.int .i64 s.f4))) (by kernel_rfl) (by exact ⟨bS.cell 0, bS.cell 1, bS.cell 2, bS.cell 3, bS.cell 4⟩) (fun hHeld => ?_)
                refine wpAnyH_take (i := 0) (v := ?_) rfl (by kernel_rfl) (by kernel_rfl) (by kernel_rfl) (fun _ _ _ h => h) (Or.inl ⟨by rfl, ?_⟩) (by assumption) ?_
                rotate_left
                · intro w hSw; (try dsimp only at hSw); go_simp; (try with_reducible rfl)
                (try simp only [Act.put, List.getElem_toArray, List.getElem_cons_zero, List.setIfInBounds_toArray, List.set_cons_zero, List.set_cons_succ])
                refine wpAnyH_take (i := 2) (v := ?_) rfl (by kernel_rfl) (by kernel_rfl) (by kernel_rfl) (fun _ _ _ h => h) (Or.inl ⟨by rfl, ?_⟩) (by assumption) ?_
                rotate_left
                · intro w hSw; (try dsimp only at hSw); go_simp; (try with_reducible rfl)
                (try simp only [Act.put, List.getElem_toArray, List.getElem_cons_zero, List.getElem_cons_succ, List.setIfInBounds_toArray, List.set_cons_zero, List.set_cons_succ])
                refine wpAnyH_ready (rs := [1]) (by kernel_rfl) (by simp) ?_
                refine AllReadyH.cons rfl (fun K hK => ?_) AllReadyH.nil
                go_simp
                (first | ((with_reducible refine (implIsWeaver_eq s _ hms lb HLB.out).mono ?_); rintro e w5 ⟨rfl, hb5⟩; (try replace hb5 := below_drew' hb5); replace bS := bS.all hb5; replace HB := HB.trans (hb5.mono HB.size); clear hb5; go_simp) | ((with_reducible refine (specIsWeaver_eq s _ hms lb HLB.out).mono ?_); rintro e w5 ⟨rfl, hb5⟩; (try replace hb5 := below_drew' hb5); replace bS := bS.all hb5; replace HB := HB.trans (hb5.mono HB.size); clear hb5; go_simp))
                refine hK.out _ _ (by exact ⟨bS.cell 0, bS.cell 1, bS.cell 2, bS.cell 3, bS.cell 4⟩) (fun hHeld => ?_)
                clear hK K
                (try simp only [Act.put, List.getElem_toArray, List.getElem_cons_zero, List.getElem_cons_succ, List.setIfInBounds_toArray, List.set_cons_zero, List.set_cons_succ])
                refine wpAnyH_ready (rs := [3]) (by kernel_rfl) (by simp) ?_
                refine AllReadyH.cons rfl (fun K hK => ?_) AllReadyH.nil
                go_simp
                (first | ((with_reducible refine (implIsWeaver_eq s _ hms lb HLB.out).mono ?_); rintro e w5 ⟨rfl, hb5⟩; (try replace hb5 := below_drew' hb5); replace bS := bS.all hb5; replace HB := HB.trans (hb5.mono HB.size); clear hb5; go_simp) | ((with_reducible refine (specIsWeaver_eq s _ hms lb HLB.out).mono ?_); rintro e w5 ⟨rfl, hb5⟩; (try replace hb5 := below_drew' hb5); replace bS := bS.all hb5; replace HB := HB.trans (hb5.mono HB.size); clear hb5; go_simp))
                refine hK.out _ _ (by exact ⟨bS.cell 0, bS.cell 1, bS.cell 2, bS.cell 3, bS.cell 4⟩) (fun hHeld => ?_)
                clear hK K
                (try simp only [Act.put, List.getElem_toArray, List.getElem_cons_zero, List.getElem_cons_succ, List.setIfInBounds_toArray, List.set_cons_zero, List.set_cons_succ])
                refine wpAnyH_take (i := 4) (v := ?_) rfl (by kernel_rfl) (by kernel_rfl) (by kernel_rfl) (fun _ _ _ h => h) (Or.inl ⟨by rfl, ?_⟩) (by assumption) ?_
                rotate_left
                · intro w hSw; (try dsimp only at hSw); go_simp; (try with_reducible rfl)
                (try simp only [Act.put, List.getElem_toArray, List.getElem_cons_zero, List.getElem_cons_succ, List.setIfInBounds_toArray, List.set_cons_zero, List.set_cons_succ])
                refine wpAnyH_take (i := 5) (v := ?_) rfl (by kernel_rfl) (by kernel_rfl) (by kernel_rfl) (fun _ _ _ h => h) (Or.inl ⟨by rfl, ?_⟩) (by assumption) ?_
                rotate_left
                · intro w hSw; (try dsimp only at hSw); go_simp; (try with_reducible rfl)
                (try simp only [Act.put, List.getElem_toArray, List.getElem_cons_zero, List.getElem_cons_succ, List.setIfInBounds_toArray, List.set_cons_zero, List.set_cons_succ])
                refine wpAnyH_done (by kernel_rfl) ?_ _
                refine NoPanic.normal ?_
                go_wp2
                go_ret
                exact ⟨ret_bool (by simp), HB⟩
end Go.Proofs.Ytanfblpibomfaaa
