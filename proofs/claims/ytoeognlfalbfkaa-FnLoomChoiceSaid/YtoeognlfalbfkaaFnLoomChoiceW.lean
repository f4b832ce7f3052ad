/- The walk of the law FnLoomChoice. No condition. -/
import Derived.Test.YtoeognlfalbfkaaDraws5c
import Derived.Test.YtoeognlfalbfkaaFnMath5
import Derived.Test.YtoeognlfalbfkaaBestI
import Derived.Test.YtoeognlfalbfkaaBestS
namespace Go.Proofs.Ytoeognlfalbfkaa
open Go.RowKit

theorem l5IsLoom_eq (s : LoomR) (w : World) (b : Bool) (h : loomB s = b) : Calls Try.prog 33 #[.agg #[.int .i64 s.f0, .int .i64 s.f1, .int .i64 s.f2, .int .i64 s.f3, .int .i64 s.f4]] w (Tells w b) := h ▸ specIsLoom_any s w
set_option maxRecDepth 100000 in
set_option maxHeartbeats 16000000 in
theorem fnLoomChoice_walk (w : World) (A : Option Addr) (n c : Nat) (R : RdB w w.heap.size A n c) : Calls Try.prog 4 #[.slice A n c] w fun e w' => e = .returned (.bool true) ∧ Below w.heap.size w w' := by
  have hcap := R.cap
  have hmax := R.max
  unfold maxLen at hmax
  have HB := Below.refl w.heap.size w
  by_cases hn : n ≤ 65536
  rotate_left
  · go_enter Try.func4, Try.ntmps4
    go_wp2_with fail
    refine (rBig_eq A n c _ (by omega) true (by simp; omega)).mono ?_
    rintro e w' ⟨rfl, rfl⟩
    go_wp2
    go_ret
    exact ⟨rfl, HB⟩
  go_enter Try.func4, Try.ntmps4
  go_wp2_with fail
  refine (rBig_eq A n c _ (by omega) false (by simp; omega)).mono ?_
  rintro e w' ⟨rfl, rfl⟩
  go_wp2_with fail
  refine (drawLoomFor_any A n c w.heap.size _ R HB.size hn).mono ?_
  rintro e w1 ⟨A2, c2, xs, wd, rfl, hxl, hwd, own, hb⟩
  replace R := R.all hb HB.size
  have OX := own.mono HB.size
  clear own
  replace HB := HB.trans (hb.mono HB.size)
  clear hb
  obtain ⟨id, hid⟩ : ∃ z, (choose5 false wd xs).1 = z := ⟨_, rfl⟩
  obtain ⟨ok, hok⟩ : ∃ z, (choose5 false wd xs).2 = z := ⟨_, rfl⟩
  obtain ⟨most, hmost⟩ : ∃ z, (choose5 true 30 xs).1 = z := ⟨_, rfl⟩
  obtain ⟨fine, hfine⟩ : ∃ z, (choose5 true 30 xs).2 = z := ⟨_, rfl⟩
  have hLi : Hid (∀ (w : World) (A : Option Addr) (c : Nat), RdF loomF w w.heap.size A xs.length c xs → Calls Try.prog 22 #[.slice A xs.length c, .int .i64 wd] w (Out w (.tuple #[.int .i64 id, .bool ok]))) := Lib.hid fun w A c h => (by have := implLoomFor_any A _ c _ xs wd w h (Nat.le_refl _); rw [hid, hok] at this; exact this)
  have hLs : Hid (∀ (w : World) (A : Option Addr) (c : Nat), RdF loomF w w.heap.size A xs.length c xs → Calls Try.prog 23 #[.slice A xs.length c, .int .i64 wd] w (Out w (.tuple #[.int .i64 id, .bool ok]))) := Lib.hid fun w A c h => (by have := specLoomFor_any A _ c _ xs wd w h (Nat.le_refl _); rw [hid, hok] at this; exact this)
  have hMi : Hid (∀ (w : World) (A : Option Addr) (c : Nat), RdF loomF w w.heap.size A xs.length c xs → Calls Try.prog 24 #[.slice A xs.length c] w (Out w (.tuple #[.int .i64 most, .bool fine]))) := Lib.hid fun w A c h => (by have := implWidestFree_any A _ c _ xs w h (Nat.le_refl _); rw [hmost, hfine] at this; exact this)
  have hMs : Hid (∀ (w : World) (A : Option Addr) (c : Nat), RdF loomF w w.heap.size A xs.length c xs → Calls Try.prog 25 #[.slice A xs.length c] w (Out w (.tuple #[.int .i64 most, .bool fine]))) := Lib.hid fun w A c h => (by have := specWidestFree_any A _ c _ xs w h (Nat.le_refl _); rw [hmost, hfine] at this; exact this)
  have HCH : Hid (ok = true → fine = true ∧ ∀ (i : Nat) (a : LoomR), xs[i]? = some a → a.f0 = id → wd ≤ a.f1 ∧ a.f4 = 0 ∧ ∀ (k : Nat) (b : LoomR), xs[k]? = some b → b.f0 = most → ¬ b.f1 < a.f1) := Lib.hid fun ho => by
    have h1 := choice (hok.trans ho)
    rw [hid, hmost, hfine] at h1
    exact h1
  clear hid hok hmost hfine hwd
  go_wp2_with fail
  refine (hLi.out _ _ _ OX.rd).mono ?_
  rintro e w2 ⟨rfl, hb⟩
  replace OX := OX.all hb
  replace R := R.all hb HB.size
  replace HB := HB.trans (hb.mono HB.size)
  clear hb
  go_wp2_with fail
  refine (hLs.out _ _ _ OX.rd).mono ?_
  rintro e w3 ⟨rfl, hb⟩
  replace OX := OX.all hb
  replace R := R.all hb HB.size
  replace HB := HB.trans (hb.mono HB.size)
  clear hb
  go_wp2_with fail
  refine (hMi.out _ _ _ OX.rd).mono ?_
  rintro e w4 ⟨rfl, hb⟩
  replace OX := OX.all hb
  replace R := R.all hb HB.size
  replace HB := HB.trans (hb.mono HB.size)
  clear hb
  go_wp2_with fail
  refine (hMs.out _ _ _ OX.rd).mono ?_
  rintro e w5 ⟨rfl, hb⟩
  replace OX := OX.all hb
  replace R := R.all hb HB.size
  replace HB := HB.trans (hb.mono HB.size)
  clear hb
  clear hLi hLs hMi hMs
  cases ok
  case false =>
    clear HCH
    go_wp2
    go_loopw [13] (fun ii wr => ∃ q : Nat, ii = .int .i64 0 ∧ wr = w5.drewN q) (fun _ _ => 0)
    case atStart => exact ⟨0, rfl, rfl⟩
    case round =>
      obtain ⟨q, rfl, rfl⟩ := hrel
      replace OX := OX.all (low_drewN _ q)
      replace R := R.all (low_drewN _ q) HB.size
      replace HB := HB.trans ((low_drewN _ q).mono HB.size)
      generalize w5.drewN q = w6 at *
      by_cases hus : (0 : Int) < (xs.length : Int)
      · skip
        clear OX
        go_wp2_with fail
        refine (drawTightenLoom_any A n c w.heap.size _ R HB.size hn).mono ?_
        rintro e w7 ⟨A5, c5, us, i0, i1, rfl, hul, hi0, hi1, own, hb⟩
        replace R := R.all hb HB.size
        have OU := own.mono HB.size
        clear own
        replace HB := HB.trans (hb.mono HB.size)
        clear hb
        obtain ⟨ts, hts⟩ : ∃ z, (tight5 us i0 i1).1 = z := ⟨_, rfl⟩
        obtain ⟨tb, htb⟩ : ∃ z, (tight5 us i0 i1).2 = z := ⟨_, rfl⟩
        have hTi : Hid (∀ (w : World) (A : Option Addr) (c : Nat), RdF loomF w w.heap.size A us.length c us → Calls Try.prog 27 #[.slice A us.length c, .int .i64 i0, .int .i64 i1] w (OutF loomF w ts tb)) := Lib.hid fun w A c h => (by have := implTightenLoom_any A _ c _ us i0 i1 w h (Nat.le_refl _) hi1; rw [hts, htb] at this; exact this)
        have hTs : Hid (∀ (w : World) (A : Option Addr) (c : Nat), RdF loomF w w.heap.size A us.length c us → Calls Try.prog 28 #[.slice A us.length c, .int .i64 i0, .int .i64 i1] w (OutF loomF w ts tb)) := Lib.hid fun w A c h => (by have := specTightenLoom_any A _ c _ us i0 i1 w h (Nat.le_refl _) hi1; rw [hts, htb] at this; exact this)
        have HTL : Hid (∀ (i : Nat) (b : LoomR), ts[i]? = some b → ∃ a, us[i]? = some a ∧ ¬ b.f3 < a.f3) := Lib.hid fun i b hb => tight_le (by rw [hts]; exact hb)
        clear hts htb hi0
        go_wp2_with fail
        refine (hTi.out _ _ _ OU.rd).mono ?_
        rintro e w8 ⟨A6, c6, rfl, own, hb⟩
        replace OU := OU.all hb
        replace R := R.all hb HB.size
        have OT := own.mono HB.size
        clear own
        replace HB := HB.trans (hb.mono HB.size)
        clear hb
        go_wp2_with fail
        refine (hTs.out _ _ _ OU.rd).mono ?_
        rintro e w9 ⟨A7, c7, rfl, own, hb⟩
        replace OU := OU.all hb
        replace OT := OT.all hb
        replace R := R.all hb HB.size
        have OS := own.mono HB.size
        clear own
        replace HB := HB.trans (hb.mono HB.size)
        clear hb
        clear hTi hTs
        go_wp2_with fail
        refine (rLooms_same _ _ _ _ _ _ _ _ ts _ OT.rd OS.rd).mono ?_
        rintro e w10 ⟨rfl, hb⟩
        replace OU := OU.all hb
        replace OT := OT.all hb
        replace OS := OS.all hb
        replace R := R.all hb HB.size
        replace HB := HB.trans (hb.mono HB.size)
        clear hb
        clear OS
        go_wp2
        go_loopw [22] (fun ii wr => ∃ k q : Nat, k ≤ ts.length ∧ ii = .int .i64 k ∧ wr = w10.drewN q) (fun ii _ => ts.length - (intOf ii).toNat)
        case atStart => exact ⟨0, 0, Nat.zero_le _, rfl, rfl⟩
        case round =>
          obtain ⟨k, q, hk, rfl, rfl⟩ := hrel
          by_cases hlt : k < ts.length
          · obtain ⟨_, _, b, eb, _, _, HX, _, _, _, gb3, _⟩ := LoomR_at (F := loomF) rfl (fun _ => rfl) (fun _ => rfl) OT.rd hlt
            obtain ⟨a, ha, hle⟩ := HTL.out k b HX.out
            obtain ⟨_, _, a', ea, _, _, HA, _, _, _, ga3, _⟩ := LoomR_at (F := loomF) rfl (fun _ => rfl) (fun _ => rfl) OU.rd (List.getElem?_eq_some_iff.1 ha).1
            obtain rfl : a' = a := Option.some.inj (HA.out.symm.trans ha)
            have hku := (List.getElem?_eq_some_iff.1 ha).1
            have hk1 : (k : Int) < (us.length : Int) := by omega
            have hk0 : (0 : Int) ≤ (k : Int) := by omega
            have hk2 : (k : Int) < (ts.length : Int) := by omega
            subst ea
            subst eb
            go_wp2
            go_quiet (fail)
            go_wp2
            go_roundw
            case rel => exact ⟨k + 1, _, by omega, by go_num, rfl⟩
            case measure => simp [intOf]; omega
          · clear HTL
            replace OU := OU.all (low_drewN _ q)
            replace OT := OT.all (low_drewN _ q)
            replace R := R.all (low_drewN _ q) HB.size
            replace HB := HB.trans ((low_drewN _ q).mono HB.size)
            generalize w10.drewN q = w11 at *
            clear OU OT
            go_wp2_with fail
            refine (drawWarpLoom_any A n c w.heap.size _ R HB.size hn).mono ?_
            rintro e w12 ⟨A8, c8, vs, j0, j1, j2, rfl, hvl, hj0, hj1, hj2, own, hb⟩
            replace R := R.all hb HB.size
            have OV := own.mono HB.size
            clear own
            replace HB := HB.trans (hb.mono HB.size)
            clear hb
            obtain ⟨zs, hzs⟩ : ∃ z, (warp5 vs j0 j1 j2).1 = z := ⟨_, rfl⟩
            obtain ⟨zb, hzb⟩ : ∃ z, (warp5 vs j0 j1 j2).2 = z := ⟨_, rfl⟩
            have hWi : Hid (∀ (w : World) (A : Option Addr) (c : Nat), RdF loomF w w.heap.size A vs.length c vs → Calls Try.prog 15 #[.slice A vs.length c, .int .i64 j0, .int .i64 j1, .int .i64 j2] w (OutF loomF w zs zb)) := Lib.hid fun w A c h => (by have := implWarpLoom_any A _ c _ vs j0 j1 j2 w h (Nat.le_refl _) hj1 hj2; rw [hzs, hzb] at this; exact this)
            have hWs : Hid (∀ (w : World) (A : Option Addr) (c : Nat), RdF loomF w w.heap.size A vs.length c vs → Calls Try.prog 30 #[.slice A vs.length c, .int .i64 j0, .int .i64 j1, .int .i64 j2] w (OutF loomF w zs zb)) := Lib.hid fun w A c h => (by have := specWarpLoom_any A _ c _ vs j0 j1 j2 w h (Nat.le_refl _) hj1 hj2; rw [hzs, hzb] at this; exact this)
            clear hzs hzb hj0
            go_wp2_with fail
            refine (hWi.out _ _ _ OV.rd).mono ?_
            rintro e w13 ⟨A9, c9, rfl, own, hb⟩
            replace OV := OV.all hb
            replace R := R.all hb HB.size
            have OT := own.mono HB.size
            clear own
            replace HB := HB.trans (hb.mono HB.size)
            clear hb
            go_wp2_with fail
            refine (hWs.out _ _ _ OV.rd).mono ?_
            rintro e w14 ⟨A10, c10, rfl, own, hb⟩
            replace OV := OV.all hb
            replace OT := OT.all hb
            replace R := R.all hb HB.size
            have OS := own.mono HB.size
            clear own
            replace HB := HB.trans (hb.mono HB.size)
            clear hb
            clear OV
            clear hWi hWs
            go_wp2_with fail
            refine (rLooms_same _ _ _ _ _ _ _ _ zs _ OT.rd OS.rd).mono ?_
            rintro e w15 ⟨rfl, hb⟩
            replace OT := OT.all hb
            replace OS := OS.all hb
            replace R := R.all hb HB.size
            replace HB := HB.trans (hb.mono HB.size)
            clear hb
            clear OT OS
            go_wp2_with fail
            refine (drawIsLoom_any A n c w.heap.size _ R HB.size hn).mono ?_
            rintro e w16 ⟨s, rfl, hs, hb⟩
            replace R := R.all hb HB.size
            replace HB := HB.trans (hb.mono HB.size)
            clear hb
            replace R := R.alloc HB.size (.cells #[.int .i64 s.f0, .int .i64 s.f1, .int .i64 s.f2, .int .i64 s.f3, .int .i64 s.f4] 37)
            have bS := Blk.new w16 #[.int .i64 s.f0, .int .i64 s.f1, .int .i64 s.f2, .int .i64 s.f3, .int .i64 s.f4] 37
            replace HB := HB.alloc HB.size (.cells #[.int .i64 s.f0, .int .i64 s.f1, .int .i64 s.f2, .int .i64 s.f3, .int .i64 s.f4] 37)
            obtain ⟨lb, hlb⟩ : ∃ z, loomB s = z := ⟨_, rfl⟩
            have HLB := Lib.hid hlb
            clear hlb hs
            have ebS0 := bS.cell 0
            have ebS1 := bS.cell 1
            have ebS2 := bS.cell 2
            have ebS3 := bS.cell 3
            have ebS4 := bS.cell 4
            have zbS := bS.lt
            have hPz := bS.lt
            go_wp2
            refine wp_region_noPanic ?_
            refine wp_region_held_drew (S := (fun w' => w'.cell? ⟨w16.heap.size, 0, none⟩ = some (.int .i64 s.f0) ∧ w'.cell? ⟨w16.heap.size, 1, none⟩ = some (.int .i64 s.f1) ∧ w'.cell? ⟨w16.heap.size, 2, none⟩ = some (.int .i64 s.f2) ∧ w'.cell? ⟨w16.heap.size, 3, none⟩ = some (.int .i64 s.f3) ∧ w'.cell? ⟨w16.heap.size, 4, none⟩ = some (.int .i64 s.f4))) (by kernel_rfl) (by exact ⟨bS.cell 0, bS.cell 1, bS.cell 2, bS.cell 3, bS.cell 4⟩) (fun hHeld => ?_)
            refine wpAnyH_take (i := 0) (v := ?_) rfl (by kernel_rfl) (by kernel_rfl) (by kernel_rfl) (fun _ _ _ h => h) (Or.inl ⟨by rfl, ?_⟩) (by assumption) ?_
            rotate_left
            · intro w hSw; (try dsimp only at hSw); go_simp; (try with_reducible rfl)
            (try simp only [Act.put, List.getElem_toArray, List.getElem_cons_zero, List.setIfInBounds_toArray, List.set_cons_zero, List.set_cons_succ])
            refine wpAnyH_take (i := 2) (v := ?_) rfl (by kernel_rfl) (by kernel_rfl) (by kernel_rfl) (fun _ _ _ h => h) (Or.inl ⟨by rfl, ?_⟩) (by assumption) ?_
            rotate_left
            · intro w hSw; (try dsimp only at hSw); go_simp; (try with_reducible rfl)
            (try simp only [Act.put, List.getElem_toArray, List.getElem_cons_zero, List.getElem_cons_succ, List.setIfInBounds_toArray, List.set_cons_zero, List.set_cons_succ])
            refine wpAnyH_ready (rs := [1]) (by kernel_rfl) (by simp) ?_
            refine AllReadyH.cons rfl (fun K hK => ?_) AllReadyH.nil
            go_simp
            (first | ((with_reducible refine (implIsLoom_eq s _ lb HLB.out).mono ?_); rintro e w5 ⟨rfl, hb5⟩; (try replace hb5 := below_drew' hb5); replace bS := bS.all hb5; replace HB := HB.trans (hb5.mono HB.size); clear hb5; go_simp) | ((with_reducible refine (l5IsLoom_eq s _ lb HLB.out).mono ?_); rintro e w5 ⟨rfl, hb5⟩; (try replace hb5 := below_drew' hb5); replace bS := bS.all hb5; replace HB := HB.trans (hb5.mono HB.size); clear hb5; go_simp))
            refine hK.out _ _ (by exact ⟨bS.cell 0, bS.cell 1, bS.cell 2, bS.cell 3, bS.cell 4⟩) (fun hHeld => ?_)
            clear hK K
            (try simp only [Act.put, List.getElem_toArray, List.getElem_cons_zero, List.getElem_cons_succ, List.setIfInBounds_toArray, List.set_cons_zero, List.set_cons_succ])
            refine wpAnyH_ready (rs := [3]) (by kernel_rfl) (by simp) ?_
            refine AllReadyH.cons rfl (fun K hK => ?_) AllReadyH.nil
            go_simp
            (first | ((with_reducible refine (implIsLoom_eq s _ lb HLB.out).mono ?_); rintro e w5 ⟨rfl, hb5⟩; (try replace hb5 := below_drew' hb5); replace bS := bS.all hb5; replace HB := HB.trans (hb5.mono HB.size); clear hb5; go_simp) | ((with_reducible refine (l5IsLoom_eq s _ lb HLB.out).mono ?_); rintro e w5 ⟨rfl, hb5⟩; (try replace hb5 := below_drew' hb5); replace bS := bS.all hb5; replace HB := HB.trans (hb5.mono HB.size); clear hb5; go_simp))
            refine hK.out _ _ (by exact ⟨bS.cell 0, bS.cell 1, bS.cell 2, bS.cell 3, bS.cell 4⟩) (fun hHeld => ?_)
            clear hK K
            (try simp only [Act.put, List.getElem_toArray, List.getElem_cons_zero, List.getElem_cons_succ, List.setIfInBounds_toArray, List.set_cons_zero, List.set_cons_succ])
            refine wpAnyH_take (i := 4) (v := ?_) rfl (by kernel_rfl) (by kernel_rfl) (by kernel_rfl) (fun _ _ _ h => h) (Or.inl ⟨by rfl, ?_⟩) (by assumption) ?_
            rotate_left
            · intro w hSw; (try dsimp only at hSw); go_simp; (try with_reducible rfl)
            (try simp only [Act.put, List.getElem_toArray, List.getElem_cons_zero, List.getElem_cons_succ, List.setIfInBounds_toArray, List.set_cons_zero, List.set_cons_succ])
            refine wpAnyH_take (i := 5) (v := ?_) rfl (by kernel_rfl) (by kernel_rfl) (by kernel_rfl) (fun _ _ _ h => h) (Or.inl ⟨by rfl, ?_⟩) (by assumption) ?_
            rotate_left
            · intro w hSw; (try dsimp only at hSw); go_simp; (try with_reducible rfl)
            (try simp only [Act.put, List.getElem_toArray, List.getElem_cons_zero, List.getElem_cons_succ, List.setIfInBounds_toArray, List.set_cons_zero, List.set_cons_succ])
            refine wpAnyH_done (by kernel_rfl) ?_ _
            refine NoPanic.normal ?_
            go_wp2
            go_ret
            exact ⟨ret_bool (by simp), HB⟩
      · skip
        clear OX
        go_wp2_with fail
        refine (drawTightenLoom_any A n c w.heap.size _ R HB.size hn).mono ?_
        rintro e w7 ⟨A5, c5, us, i0, i1, rfl, hul, hi0, hi1, own, hb⟩
        replace R := R.all hb HB.size
        have OU := own.mono HB.size
        clear own
        replace HB := HB.trans (hb.mono HB.size)
        clear hb
        obtain ⟨ts, hts⟩ : ∃ z, (tight5 us i0 i1).1 = z := ⟨_, rfl⟩
        obtain ⟨tb, htb⟩ : ∃ z, (tight5 us i0 i1).2 = z := ⟨_, rfl⟩
        have hTi : Hid (∀ (w : World) (A : Option Addr) (c : Nat), RdF loomF w w.heap.size A us.length c us → Calls Try.prog 27 #[.slice A us.length c, .int .i64 i0, .int .i64 i1] w (OutF loomF w ts tb)) := Lib.hid fun w A c h => (by have := implTightenLoom_any A _ c _ us i0 i1 w h (Nat.le_refl _) hi1; rw [hts, htb] at this; exact this)
        have hTs : Hid (∀ (w : World) (A : Option Addr) (c : Nat), RdF loomF w w.heap.size A us.length c us → Calls Try.prog 28 #[.slice A us.length c, .int .i64 i0, .int .i64 i1] w (OutF loomF w ts tb)) := Lib.hid fun w A c h => (by have := specTightenLoom_any A _ c _ us i0 i1 w h (Nat.le_refl _) hi1; rw [hts, htb] at this; exact this)
        have HTL : Hid (∀ (i : Nat) (b : LoomR), ts[i]? = some b → ∃ a, us[i]? = some a ∧ ¬ b.f3 < a.f3) := Lib.hid fun i b hb => tight_le (by rw [hts]; exact hb)
        clear hts htb hi0
        go_wp2_with fail
        refine (hTi.out _ _ _ OU.rd).mono ?_
        rintro e w8 ⟨A6, c6, rfl, own, hb⟩
        replace OU := OU.all hb
        replace R := R.all hb HB.size
        have OT := own.mono HB.size
        clear own
        replace HB := HB.trans (hb.mono HB.size)
        clear hb
        go_wp2_with fail
        refine (hTs.out _ _ _ OU.rd).mono ?_
        rintro e w9 ⟨A7, c7, rfl, own, hb⟩
        replace OU := OU.all hb
        replace OT := OT.all hb
        replace R := R.all hb HB.size
        have OS := own.mono HB.size
        clear own
        replace HB := HB.trans (hb.mono HB.size)
        clear hb
        clear hTi hTs
        go_wp2_with fail
        refine (rLooms_same _ _ _ _ _ _ _ _ ts _ OT.rd OS.rd).mono ?_
        rintro e w10 ⟨rfl, hb⟩
        replace OU := OU.all hb
        replace OT := OT.all hb
        replace OS := OS.all hb
        replace R := R.all hb HB.size
        replace HB := HB.trans (hb.mono HB.size)
        clear hb
        clear OS
        go_wp2
        go_loopw [22] (fun ii wr => ∃ k q : Nat, k ≤ ts.length ∧ ii = .int .i64 k ∧ wr = w10.drewN q) (fun ii _ => ts.length - (intOf ii).toNat)
        case atStart => exact ⟨0, 0, Nat.zero_le _, rfl, rfl⟩
        case round =>
          obtain ⟨k, q, hk, rfl, rfl⟩ := hrel
          by_cases hlt : k < ts.length
          · obtain ⟨_, _, b, eb, _, _, HX, _, _, _, gb3, _⟩ := LoomR_at (F := loomF) rfl (fun _ => rfl) (fun _ => rfl) OT.rd hlt
            obtain ⟨a, ha, hle⟩ := HTL.out k b HX.out
            obtain ⟨_, _, a', ea, _, _, HA, _, _, _, ga3, _⟩ := LoomR_at (F := loomF) rfl (fun _ => rfl) (fun _ => rfl) OU.rd (List.getElem?_eq_some_iff.1 ha).1
            obtain rfl : a' = a := Option.some.inj (HA.out.symm.trans ha)
            have hku := (List.getElem?_eq_some_iff.1 ha).1
            have hk1 : (k : Int) < (us.length : Int) := by omega
            have hk0 : (0 : Int) ≤ (k : Int) := by omega
            have hk2 : (k : Int) < (ts.length : Int) := by omega
            subst ea
            subst eb
            go_wp2
            go_quiet (fail)
            go_wp2
            go_roundw
            case rel => exact ⟨k + 1, _, by omega, by go_num, rfl⟩
            case measure => simp [intOf]; omega
          · clear HTL
            replace OU := OU.all (low_drewN _ q)
            replace OT := OT.all (low_drewN _ q)
            replace R := R.all (low_drewN _ q) HB.size
            replace HB := HB.trans ((low_drewN _ q).mono HB.size)
            generalize w10.drewN q = w11 at *
            clear OU OT
            go_wp2_with fail
            refine (drawWarpLoom_any A n c w.heap.size _ R HB.size hn).mono ?_
            rintro e w12 ⟨A8, c8, vs, j0, j1, j2, rfl, hvl, hj0, hj1, hj2, own, hb⟩
            replace R := R.all hb HB.size
            have OV := own.mono HB.size
            clear own
            replace HB := HB.trans (hb.mono HB.size)
            clear hb
            obtain ⟨zs, hzs⟩ : ∃ z, (warp5 vs j0 j1 j2).1 = z := ⟨_, rfl⟩
            obtain ⟨zb, hzb⟩ : ∃ z, (warp5 vs j0 j1 j2).2 = z := ⟨_, rfl⟩
            have hWi : Hid (∀ (w : World) (A : Option Addr) (c : Nat), RdF loomF w w.heap.size A vs.length c vs → Calls Try.prog 15 #[.slice A vs.length c, .int .i64 j0, .int .i64 j1, .int .i64 j2] w (OutF loomF w zs zb)) := Lib.hid fun w A c h => (by have := implWarpLoom_any A _ c _ vs j0 j1 j2 w h (Nat.le_refl _) hj1 hj2; rw [hzs, hzb] at this; exact this)
            have hWs : Hid (∀ (w : World) (A : Option Addr) (c : Nat), RdF loomF w w.heap.size A vs.length c vs → Calls Try.prog 30 #[.slice A vs.length c, .int .i64 j0, .int .i64 j1, .int .i64 j2] w (OutF loomF w zs zb)) := Lib.hid fun w A c h => (by have := specWarpLoom_any A _ c _ vs j0 j1 j2 w h (Nat.le_refl _) hj1 hj2; rw [hzs, hzb] at this; exact this)
            clear hzs hzb hj0
            go_wp2_with fail
            refine (hWi.out _ _ _ OV.rd).mono ?_
            rintro e w13 ⟨A9, c9, rfl, own, hb⟩
            replace OV := OV.all hb
            replace R := R.all hb HB.size
            have OT := own.mono HB.size
            clear own
            replace HB := HB.trans (hb.mono HB.size)
            clear hb
            go_wp2_with fail
            refine (hWs.out _ _ _ OV.rd).mono ?_
            rintro e w14 ⟨A10, c10, rfl, own, hb⟩
            replace OV := OV.all hb
            replace OT := OT.all hb
            replace R := R.all hb HB.size
            have OS := own.mono HB.size
            clear own
            replace HB := HB.trans (hb.mono HB.size)
            clear hb
            clear OV
            clear hWi hWs
            go_wp2_with fail
            refine (rLooms_same _ _ _ _ _ _ _ _ zs _ OT.rd OS.rd).mono ?_
            rintro e w15 ⟨rfl, hb⟩
            replace OT := OT.all hb
            replace OS := OS.all hb
            replace R := R.all hb HB.size
            replace HB := HB.trans (hb.mono HB.size)
            clear hb
            clear OT OS
            go_wp2_with fail
            refine (drawIsLoom_any A n c w.heap.size _ R HB.size hn).mono ?_
            rintro e w16 ⟨s, rfl, hs, hb⟩
            replace R := R.all hb HB.size
            replace HB := HB.trans (hb.mono HB.size)
            clear hb
            replace R := R.alloc HB.size (.cells #[.int .i64 s.f0, .int .i64 s.f1, .int .i64 s.f2, .int .i64 s.f3, .int .i64 s.f4] 37)
            have bS := Blk.new w16 #[.int .i64 s.f0, .int .i64 s.f1, .int .i64 s.f2, .int .i64 s.f3, .int .i64 s.f4] 37
            replace HB := HB.alloc HB.size (.cells #[.int .i64 s.f0, .int .i64 s.f1, .int .i64 s.f2, .int .i64 s.f3, .int .i64 s.f4] 37)
            obtain ⟨lb, hlb⟩ : ∃ z, loomB s = z := ⟨_, rfl⟩
            have HLB := Lib.hid hlb
            clear hlb hs
            have ebS0 := bS.cell 0
            have ebS1 := bS.cell 1
            have ebS2 := bS.cell 2
            have ebS3 := bS.cell 3
            have ebS4 := bS.cell 4
            have zbS := bS.lt
            have hPz := bS.lt
            go_wp2
            refine wp_region_noPanic ?_
            refine wp_region_held_drew (S := (fun w' => w'.cell? ⟨w16.heap.size, 0, none⟩ = some (.int .i64 s.f0) ∧ w'.cell? ⟨w16.heap.size, 1, none⟩ = some (.int .i64 s.f1) ∧ w'.cell? ⟨w16.heap.size, 2, none⟩ = some (.int .i64 s.f2) ∧ w'.cell? ⟨w16.heap.size, 3, none⟩ = some (.int .i64 s.f3) ∧ w'.cell? ⟨w16.heap.size, 4, none⟩ = some (.int .i64 s.f4))) (by kernel_rfl) (by exact ⟨bS.cell 0, bS.cell 1, bS.cell 2, bS.cell 3, bS.cell 4⟩) (fun hHeld => ?_)
            refine wpAnyH_take (i := 0) (v := ?_) rfl (by kernel_rfl) (by kernel_rfl) (by kernel_rfl) (fun _ _ _ h => h) (Or.inl ⟨by rfl, ?_⟩) (by assumption) ?_
            rotate_left
            · intro w hSw; (try dsimp only at hSw); go_simp; (try with_reducible rfl)
            (try simp only [Act.put, List.getElem_toArray, List.getElem_cons_zero, List.setIfInBounds_toArray, List.set_cons_zero, List.set_cons_succ])
            refine wpAnyH_take (i := 2) (v := ?_) rfl (by kernel_rfl) (by kernel_rfl) (by kernel_rfl) (fun _ _ _ h => h) (Or.inl ⟨by rfl, ?_⟩) (by assumption) ?_
            rotate_left
            · intro w hSw; (try dsimp only at hSw); go_simp; (try with_reducible rfl)
            (try simp only [Act.put, List.getElem_toArray, List.getElem_cons_zero, List.getElem_cons_succ, List.setIfInBounds_toArray, List.set_cons_zero, List.set_cons_succ])
            refine wpAnyH_ready (rs := [1]) (by kernel_rfl) (by simp) ?_
            refine AllReadyH.cons rfl (fun K hK => ?_) AllReadyH.nil
            go_simp
            (first | ((with_reducible refine (implIsLoom_eq s _ lb HLB.out).mono ?_); rintro e w5 ⟨rfl, hb5⟩; (try replace hb5 := below_drew' hb5); replace bS := bS.all hb5; replace HB := HB.trans (hb5.mono HB.size); clear hb5; go_simp) | ((with_reducible refine (l5IsLoom_eq s _ lb HLB.out).mono ?_); rintro e w5 ⟨rfl, hb5⟩; (try replace hb5 := below_drew' hb5); replace bS := bS.all hb5; replace HB := HB.trans (hb5.mono HB.size); clear hb5; go_simp))
            refine hK.out _ _ (by exact ⟨bS.cell 0, bS.cell 1, bS.cell 2, bS.cell 3, bS.cell 4⟩) (fun hHeld => ?_)
            clear hK K
            (try simp only [Act.put, List.getElem_toArray, List.getElem_cons_zero, List.getElem_cons_succ, List.setIfInBounds_toArray, List.set_cons_zero, List.set_cons_succ])
            refine wpAnyH_ready (rs := [3]) (by kernel_rfl) (by simp) ?_
            refine AllReadyH.cons rfl (fun K hK => ?_) AllReadyH.nil
            go_simp
            (first | ((with_reducible refine (implIsLoom_eq s _ lb HLB.out).mono ?_); rintro e w5 ⟨rfl, hb5⟩; (try replace hb5 := below_drew' hb5); replace bS := bS.all hb5; replace HB := HB.trans (hb5.mono HB.size); clear hb5; go_simp) | ((with_reducible refine (l5IsLoom_eq s _ lb HLB.out).mono ?_); rintro e w5 ⟨rfl, hb5⟩; (try replace hb5 := below_drew' hb5); replace bS := bS.all hb5; replace HB := HB.trans (hb5.mono HB.size); clear hb5; go_simp))
            refine hK.out _ _ (by exact ⟨bS.cell 0, bS.cell 1, bS.cell 2, bS.cell 3, bS.cell 4⟩) (fun hHeld => ?_)
            clear hK K
            (try simp only [Act.put, List.getElem_toArray, List.getElem_cons_zero, List.getElem_cons_succ, List.setIfInBounds_toArray, List.set_cons_zero, List.set_cons_succ])
            refine wpAnyH_take (i := 4) (v := ?_) rfl (by kernel_rfl) (by kernel_rfl) (by kernel_rfl) (fun _ _ _ h => h) (Or.inl ⟨by rfl, ?_⟩) (by assumption) ?_
            rotate_left
            · intro w hSw; (try dsimp only at hSw); go_simp; (try with_reducible rfl)
            (try simp only [Act.put, List.getElem_toArray, List.getElem_cons_zero, List.getElem_cons_succ, List.setIfInBounds_toArray, List.set_cons_zero, List.set_cons_succ])
            refine wpAnyH_take (i := 5) (v := ?_) rfl (by kernel_rfl) (by kernel_rfl) (by kernel_rfl) (fun _ _ _ h => h) (Or.inl ⟨by rfl, ?_⟩) (by assumption) ?_
            rotate_left
            · intro w hSw; (try dsimp only at hSw); go_simp; (try with_reducible rfl)
            (try simp only [Act.put, List.getElem_toArray, List.getElem_cons_zero, List.getElem_cons_succ, List.setIfInBounds_toArray, List.set_cons_zero, List.set_cons_succ])
            refine wpAnyH_done (by kernel_rfl) ?_ _
            refine NoPanic.normal ?_
            go_wp2
            go_ret
            exact ⟨ret_bool (by simp), HB⟩
  case true =>
    obtain ⟨rfl, hch⟩ := HCH.out rfl
    have HC2 := Lib.hid hch
    clear HCH hch
    go_wp2
    go_loopw [13] (fun ii wr => ∃ k q : Nat, k ≤ xs.length ∧ ii = .int .i64 k ∧ wr = w5.drewN q) (fun ii _ => xs.length - (intOf ii).toNat)
    case atStart => exact ⟨0, 0, Nat.zero_le _, rfl, rfl⟩
    case round =>
      obtain ⟨k, q, hk, rfl, rfl⟩ := hrel
      by_cases hlt : k < xs.length
      · have OXq := OX.drewN q
        obtain ⟨b_, off_, a, ea, hbB, ha, HX, ga0, ga1, _, _, ga4⟩ := LoomR_at (F := loomF) rfl (fun _ => rfl) (fun _ => rfl) OXq.rd hlt
        have HAC := Lib.hid (HC2.out k a HX.out)
        have hk0 : (0 : Int) ≤ (k : Int) := by omega
        have hkn : (k : Int) < (xs.length : Int) := by omega
        subst ea
        go_wp2
        go_loopw [14] (fun jj wr => ∃ l q2 : Nat, l ≤ xs.length ∧ jj = .int .i64 l ∧ wr = w5.drewN q2) (fun jj _ => xs.length - (intOf jj).toNat)
        case atStart => exact ⟨0, q, Nat.zero_le _, rfl, rfl⟩
        case round =>
          obtain ⟨l, q2, hl, rfl, rfl⟩ := hrel
          by_cases hlt2 : l < xs.length
          · have OXr := OX.drewN q2
            obtain ⟨_, _, d, ed, _, _, HD, gd0, gd1, _, _, _⟩ := LoomR_at (F := loomF) rfl (fun _ => rfl) (fun _ => rfl) OXr.rd hlt2
            cases ed
            replace ga0 : (w5.drewN q2).cell? ⟨b_, off_ + k * 5, none⟩ = some (.int .i64 a.f0) := ga0
            replace ga1 : (w5.drewN q2).cell? ⟨b_, off_ + k * 5 + 1, none⟩ = some (.int .i64 a.f1) := ga1
            replace ga4 : (w5.drewN q2).cell? ⟨b_, off_ + k * 5 + 4, none⟩ = some (.int .i64 a.f4) := ga4
            have hl0 : (0 : Int) ≤ (l : Int) := by omega
            have hln : (l : Int) < (xs.length : Int) := by omega
            obtain ⟨a0, a1, a2, a3, a4⟩ := a
            obtain ⟨d0, d1, d2, d3, d4⟩ := d
            simp only at ga0 ga1 ga4 gd0 gd1 HAC
            by_cases hai : a0 = id
            rotate_left
            · have hai' : (a0 == id) = false := by simpa using hai
              clear hai
              go_wp2
              refine wp_region_noPanic ?_
              refine wp_region_held_drew (S := (fun w' => w'.cell? ⟨b_, off_ + k * 5, none⟩ = some (.int .i64 a0) ∧ w'.cell? ⟨b_, off_ + k * 5 + 1, none⟩ = some (.int .i64 a1) ∧ w'.cell? ⟨b_, off_ + k * 5 + 4, none⟩ = some (.int .i64 a4) ∧ w'.cell? ⟨b_, off_ + l * 5, none⟩ = some (.int .i64 d0) ∧ w'.cell? ⟨b_, off_ + l * 5 + 1, none⟩ = some (.int .i64 d1))) (by kernel_rfl) (by exact ⟨ga0, ga1, ga4, gd0, gd1⟩) (fun hHeld => ?_)
              refine wpAnyH_take (i := 0) (v := ?_) rfl (by kernel_rfl) (by kernel_rfl) (by kernel_rfl) (fun _ _ _ h => h) (Or.inl ⟨by rfl, ?_⟩) (by assumption) ?_
              rotate_left
              · intro w hSw; (try dsimp only at hSw); go_simp; (try with_reducible rfl)
              (try simp only [Act.put, List.getElem_toArray, List.getElem_cons_zero, List.setIfInBounds_toArray, List.set_cons_zero, List.set_cons_succ])
              refine wpAnyH_take (i := 1) (v := ?_) rfl (by kernel_rfl) (by kernel_rfl) (by kernel_rfl) (fun _ _ _ h => h) (Or.inl ⟨by rfl, ?_⟩) (by assumption) ?_
              rotate_left
              · intro w hSw; (try dsimp only at hSw); go_simp; (try with_reducible rfl)
              (try simp only [Act.put, List.getElem_toArray, List.getElem_cons_zero, List.getElem_cons_succ, List.setIfInBounds_toArray, List.set_cons_zero, List.set_cons_succ])
              refine wpAnyH_take (i := 2) (v := ?_) rfl (by kernel_rfl) (by kernel_rfl) (by kernel_rfl) (fun _ _ _ h => h) (Or.inl ⟨by rfl, ?_⟩) (by assumption) ?_
              rotate_left
              · intro w hSw; (try dsimp only at hSw); go_simp; (try with_reducible rfl)
              (try simp only [Act.put, List.getElem_toArray, List.getElem_cons_zero, List.getElem_cons_succ, List.setIfInBounds_toArray, List.set_cons_zero, List.set_cons_succ])
              refine wpAnyH_take (i := 3) (v := ?_) rfl (by kernel_rfl) (by kernel_rfl) (by kernel_rfl) (fun _ _ _ h => h) (Or.inl ⟨by rfl, ?_⟩) (by assumption) ?_
              rotate_left
              · intro w hSw; (try dsimp only at hSw); go_simp; (try with_reducible rfl)
              (try simp only [Act.put, List.getElem_toArray, List.getElem_cons_zero, List.getElem_cons_succ, List.setIfInBounds_toArray, List.set_cons_zero, List.set_cons_succ])
              refine wpAnyH_take (i := 4) (v := ?_) rfl (by kernel_rfl) (by kernel_rfl) (by kernel_rfl) (fun _ _ _ h => h) (Or.inl ⟨by rfl, ?_⟩) (by assumption) ?_
              rotate_left
              · intro w hSw; (try dsimp only at hSw); go_simp; (try with_reducible rfl)
              (try simp only [Act.put, List.getElem_toArray, List.getElem_cons_zero, List.getElem_cons_succ, List.setIfInBounds_toArray, List.set_cons_zero, List.set_cons_succ])
              refine wpAnyH_take (i := 5) (v := ?_) rfl (by kernel_rfl) (by kernel_rfl) (by kernel_rfl) (fun _ _ _ h => h) (Or.inl ⟨by rfl, ?_⟩) (by assumption) ?_
              rotate_left
              · intro w hSw; (try dsimp only at hSw); go_simp; (try with_reducible rfl)
              (try simp only [Act.put, List.getElem_toArray, List.getElem_cons_zero, List.getElem_cons_succ, List.setIfInBounds_toArray, List.set_cons_zero, List.set_cons_succ])
              refine wpAnyH_take (i := 6) (v := ?_) rfl (by kernel_rfl) (by kernel_rfl) (by kernel_rfl) (fun _ _ _ h => h) (Or.inl ⟨by rfl, ?_⟩) (by assumption) ?_
              rotate_left
              · intro w hSw; (try dsimp only at hSw); go_simp; (try with_reducible rfl)
              (try simp only [Act.put, List.getElem_toArray, List.getElem_cons_zero, List.getElem_cons_succ, List.setIfInBounds_toArray, List.set_cons_zero, List.set_cons_succ])
              refine wpAnyH_take (i := 7) (v := ?_) rfl (by kernel_rfl) (by kernel_rfl) (by kernel_rfl) (fun _ _ _ h => h) (Or.inl ⟨by rfl, ?_⟩) (by assumption) ?_
              rotate_left
              · intro w hSw; (try dsimp only at hSw); go_simp; (try with_reducible rfl)
              (try simp only [Act.put, List.getElem_toArray, List.getElem_cons_zero, List.getElem_cons_succ, List.setIfInBounds_toArray, List.set_cons_zero, List.set_cons_succ])
              refine wpAnyH_take (i := 8) (v := undef) rfl (by kernel_rfl) (by kernel_rfl) (by kernel_rfl) (fun _ _ _ h => h) (Or.inr ⟨by rfl, rfl⟩) (by assumption) ?_
              (try simp only [Act.put, List.getElem_toArray, List.getElem_cons_zero, List.getElem_cons_succ, List.setIfInBounds_toArray, List.set_cons_zero, List.set_cons_succ])
              refine wpAnyH_take (i := 9) (v := undef) rfl (by kernel_rfl) (by kernel_rfl) (by kernel_rfl) (fun _ _ _ h => h) (Or.inr ⟨by rfl, rfl⟩) (by assumption) ?_
              (try simp only [Act.put, List.getElem_toArray, List.getElem_cons_zero, List.getElem_cons_succ, List.setIfInBounds_toArray, List.set_cons_zero, List.set_cons_succ])
              refine wpAnyH_take (i := 10) (v := undef) rfl (by kernel_rfl) (by kernel_rfl) (by kernel_rfl) (fun _ _ _ h => h) (Or.inr ⟨by rfl, rfl⟩) (by assumption) ?_
              (try simp only [Act.put, List.getElem_toArray, List.getElem_cons_zero, List.getElem_cons_succ, List.setIfInBounds_toArray, List.set_cons_zero, List.set_cons_succ])
              refine wpAnyH_take (i := 11) (v := undef) rfl (by kernel_rfl) (by kernel_rfl) (by kernel_rfl) (fun _ _ _ h => h) (Or.inr ⟨by rfl, rfl⟩) (by assumption) ?_
              (try simp only [Act.put, List.getElem_toArray, List.getElem_cons_zero, List.getElem_cons_succ, List.setIfInBounds_toArray, List.set_cons_zero, List.set_cons_succ])
              refine wpAnyH_take (i := 12) (v := undef) rfl (by kernel_rfl) (by kernel_rfl) (by kernel_rfl) (fun _ _ _ h => h) (Or.inr ⟨by rfl, rfl⟩) (by assumption) ?_
              (try simp only [Act.put, List.getElem_toArray, List.getElem_cons_zero, List.getElem_cons_succ, List.setIfInBounds_toArray, List.set_cons_zero, List.set_cons_succ])
              refine wpAnyH_take (i := 13) (v := undef) rfl (by kernel_rfl) (by kernel_rfl) (by kernel_rfl) (fun _ _ _ h => h) (Or.inr ⟨by rfl, rfl⟩) (by assumption) ?_
              (try simp only [Act.put, List.getElem_toArray, List.getElem_cons_zero, List.getElem_cons_succ, List.setIfInBounds_toArray, List.set_cons_zero, List.set_cons_succ])
              refine wpAnyH_take (i := 14) (v := undef) rfl (by kernel_rfl) (by kernel_rfl) (by kernel_rfl) (fun _ _ _ h => h) (Or.inr ⟨by rfl, rfl⟩) (by assumption) ?_
              (try simp only [Act.put, List.getElem_toArray, List.getElem_cons_zero, List.getElem_cons_succ, List.setIfInBounds_toArray, List.set_cons_zero, List.set_cons_succ])
              refine wpAnyH_take (i := 15) (v := undef) rfl (by kernel_rfl) (by kernel_rfl) (by kernel_rfl) (fun _ _ _ h => h) (Or.inr ⟨by rfl, rfl⟩) (by assumption) ?_
              (try simp only [Act.put, List.getElem_toArray, List.getElem_cons_zero, List.getElem_cons_succ, List.setIfInBounds_toArray, List.set_cons_zero, List.set_cons_succ])
              refine wpAnyH_take (i := 16) (v := undef) rfl (by kernel_rfl) (by kernel_rfl) (by kernel_rfl) (fun _ _ _ h => h) (Or.inr ⟨by rfl, rfl⟩) (by assumption) ?_
              (try simp only [Act.put, List.getElem_toArray, List.getElem_cons_zero, List.getElem_cons_succ, List.setIfInBounds_toArray, List.set_cons_zero, List.set_cons_succ])
              refine wpAnyH_take (i := 17) (v := undef) rfl (by kernel_rfl) (by kernel_rfl) (by kernel_rfl) (fun _ _ _ h => h) (Or.inr ⟨by rfl, rfl⟩) (by assumption) ?_
              (try simp only [Act.put, List.getElem_toArray, List.getElem_cons_zero, List.getElem_cons_succ, List.setIfInBounds_toArray, List.set_cons_zero, List.set_cons_succ])
              refine wpAnyH_take (i := 18) (v := undef) rfl (by kernel_rfl) (by kernel_rfl) (by kernel_rfl) (fun _ _ _ h => h) (Or.inr ⟨by rfl, rfl⟩) (by assumption) ?_
              (try simp only [Act.put, List.getElem_toArray, List.getElem_cons_zero, List.getElem_cons_succ, List.setIfInBounds_toArray, List.set_cons_zero, List.set_cons_succ])
              refine wpAnyH_take (i := 19) (v := undef) rfl (by kernel_rfl) (by kernel_rfl) (by kernel_rfl) (fun _ _ _ h => h) (Or.inr ⟨by rfl, rfl⟩) (by assumption) ?_
              (try simp only [Act.put, List.getElem_toArray, List.getElem_cons_zero, List.getElem_cons_succ, List.setIfInBounds_toArray, List.set_cons_zero, List.set_cons_succ])
              refine wpAnyH_take (i := 20) (v := undef) rfl (by kernel_rfl) (by kernel_rfl) (by kernel_rfl) (fun _ _ _ h => h) (Or.inr ⟨by rfl, rfl⟩) (by assumption) ?_
              (try simp only [Act.put, List.getElem_toArray, List.getElem_cons_zero, List.getElem_cons_succ, List.setIfInBounds_toArray, List.set_cons_zero, List.set_cons_succ])
              refine wpAnyH_take (i := 21) (v := undef) rfl (by kernel_rfl) (by kernel_rfl) (by kernel_rfl) (fun _ _ _ h => h) (Or.inr ⟨by rfl, rfl⟩) (by assumption) ?_
              (try simp only [Act.put, List.getElem_toArray, List.getElem_cons_zero, List.getElem_cons_succ, List.setIfInBounds_toArray, List.set_cons_zero, List.set_cons_succ])
              refine wpAnyH_take (i := 22) (v := undef) rfl (by kernel_rfl) (by kernel_rfl) (by kernel_rfl) (fun _ _ _ h => h) (Or.inr ⟨by rfl, rfl⟩) (by assumption) ?_
              (try simp only [Act.put, List.getElem_toArray, List.getElem_cons_zero, List.getElem_cons_succ, List.setIfInBounds_toArray, List.set_cons_zero, List.set_cons_succ])
              refine wpAnyH_take (i := 23) (v := undef) rfl (by kernel_rfl) (by kernel_rfl) (by kernel_rfl) (fun _ _ _ h => h) (Or.inr ⟨by rfl, rfl⟩) (by assumption) ?_
              (try simp only [Act.put, List.getElem_toArray, List.getElem_cons_zero, List.getElem_cons_succ, List.setIfInBounds_toArray, List.set_cons_zero, List.set_cons_succ])
              refine wpAnyH_take (i := 24) (v := undef) rfl (by kernel_rfl) (by kernel_rfl) (by kernel_rfl) (fun _ _ _ h => h) (Or.inr ⟨by rfl, rfl⟩) (by assumption) ?_
              (try simp only [Act.put, List.getElem_toArray, List.getElem_cons_zero, List.getElem_cons_succ, List.setIfInBounds_toArray, List.set_cons_zero, List.set_cons_succ])
              refine wpAnyH_take (i := 25) (v := undef) rfl (by kernel_rfl) (by kernel_rfl) (by kernel_rfl) (fun _ _ _ h => h) (Or.inr ⟨by rfl, rfl⟩) (by assumption) ?_
              (try simp only [Act.put, List.getElem_toArray, List.getElem_cons_zero, List.getElem_cons_succ, List.setIfInBounds_toArray, List.set_cons_zero, List.set_cons_succ])
              refine wpAnyH_take (i := 26) (v := undef) rfl (by kernel_rfl) (by kernel_rfl) (by kernel_rfl) (fun _ _ _ h => h) (Or.inr ⟨by rfl, rfl⟩) (by assumption) ?_
              (try simp only [Act.put, List.getElem_toArray, List.getElem_cons_zero, List.getElem_cons_succ, List.setIfInBounds_toArray, List.set_cons_zero, List.set_cons_succ])
              refine wpAnyH_take (i := 27) (v := undef) rfl (by kernel_rfl) (by kernel_rfl) (by kernel_rfl) (fun _ _ _ h => h) (Or.inr ⟨by rfl, rfl⟩) (by assumption) ?_
              (try simp only [Act.put, List.getElem_toArray, List.getElem_cons_zero, List.getElem_cons_succ, List.setIfInBounds_toArray, List.set_cons_zero, List.set_cons_succ])
              refine wpAnyH_take (i := 28) (v := undef) rfl (by kernel_rfl) (by kernel_rfl) (by kernel_rfl) (fun _ _ _ h => h) (Or.inr ⟨by rfl, rfl⟩) (by assumption) ?_
              (try simp only [Act.put, List.getElem_toArray, List.getElem_cons_zero, List.getElem_cons_succ, List.setIfInBounds_toArray, List.set_cons_zero, List.set_cons_succ])
              refine wpAnyH_take (i := 29) (v := undef) rfl (by kernel_rfl) (by kernel_rfl) (by kernel_rfl) (fun _ _ _ h => h) (Or.inr ⟨by rfl, rfl⟩) (by assumption) ?_
              (try simp only [Act.put, List.getElem_toArray, List.getElem_cons_zero, List.getElem_cons_succ, List.setIfInBounds_toArray, List.set_cons_zero, List.set_cons_succ])
              refine wpAnyH_take (i := 30) (v := undef) rfl (by kernel_rfl) (by kernel_rfl) (by kernel_rfl) (fun _ _ _ h => h) (Or.inr ⟨by rfl, rfl⟩) (by assumption) ?_
              (try simp only [Act.put, List.getElem_toArray, List.getElem_cons_zero, List.getElem_cons_succ, List.setIfInBounds_toArray, List.set_cons_zero, List.set_cons_succ])
              refine wpAnyH_take (i := 31) (v := undef) rfl (by kernel_rfl) (by kernel_rfl) (by kernel_rfl) (fun _ _ _ h => h) (Or.inr ⟨by rfl, rfl⟩) (by assumption) ?_
              (try simp only [Act.put, List.getElem_toArray, List.getElem_cons_zero, List.getElem_cons_succ, List.setIfInBounds_toArray, List.set_cons_zero, List.set_cons_succ])
              refine wpAnyH_take (i := 32) (v := undef) rfl (by kernel_rfl) (by kernel_rfl) (by kernel_rfl) (fun _ _ _ h => h) (Or.inr ⟨by rfl, rfl⟩) (by assumption) ?_
              (try simp only [Act.put, List.getElem_toArray, List.getElem_cons_zero, List.getElem_cons_succ, List.setIfInBounds_toArray, List.set_cons_zero, List.set_cons_succ])
              refine wpAnyH_take (i := 33) (v := undef) rfl (by kernel_rfl) (by kernel_rfl) (by kernel_rfl) (fun _ _ _ h => h) (Or.inr ⟨by rfl, rfl⟩) (by assumption) ?_
              (try simp only [Act.put, List.getElem_toArray, List.getElem_cons_zero, List.getElem_cons_succ, List.setIfInBounds_toArray, List.set_cons_zero, List.set_cons_succ])
              refine wpAnyH_take (i := 34) (v := undef) rfl (by kernel_rfl) (by kernel_rfl) (by kernel_rfl) (fun _ _ _ h => h) (Or.inr ⟨by rfl, rfl⟩) (by assumption) ?_
              (try simp only [Act.put, List.getElem_toArray, List.getElem_cons_zero, List.getElem_cons_succ, List.setIfInBounds_toArray, List.set_cons_zero, List.set_cons_succ])
              refine wpAnyH_take (i := 35) (v := undef) rfl (by kernel_rfl) (by kernel_rfl) (by kernel_rfl) (fun _ _ _ h => h) (Or.inr ⟨by rfl, rfl⟩) (by assumption) ?_
              (try simp only [Act.put, List.getElem_toArray, List.getElem_cons_zero, List.getElem_cons_succ, List.setIfInBounds_toArray, List.set_cons_zero, List.set_cons_succ])
              refine wpAnyH_take (i := 36) (v := undef) rfl (by kernel_rfl) (by kernel_rfl) (by kernel_rfl) (fun _ _ _ h => h) (Or.inr ⟨by rfl, rfl⟩) (by assumption) ?_
              (try simp only [Act.put, List.getElem_toArray, List.getElem_cons_zero, List.getElem_cons_succ, List.setIfInBounds_toArray, List.set_cons_zero, List.set_cons_succ])
              refine wpAnyH_take (i := 37) (v := undef) rfl (by kernel_rfl) (by kernel_rfl) (by kernel_rfl) (fun _ _ _ h => h) (Or.inr ⟨by rfl, rfl⟩) (by assumption) ?_
              (try simp only [Act.put, List.getElem_toArray, List.getElem_cons_zero, List.getElem_cons_succ, List.setIfInBounds_toArray, List.set_cons_zero, List.set_cons_succ])
              refine wpAnyH_take (i := 38) (v := undef) rfl (by kernel_rfl) (by kernel_rfl) (by kernel_rfl) (fun _ _ _ h => h) (Or.inr ⟨by rfl, rfl⟩) (by assumption) ?_
              (try simp only [Act.put, List.getElem_toArray, List.getElem_cons_zero, List.getElem_cons_succ, List.setIfInBounds_toArray, List.set_cons_zero, List.set_cons_succ])
              refine wpAnyH_take (i := 39) (v := undef) rfl (by kernel_rfl) (by kernel_rfl) (by kernel_rfl) (fun _ _ _ h => h) (Or.inr ⟨by rfl, rfl⟩) (by assumption) ?_
              (try simp only [Act.put, List.getElem_toArray, List.getElem_cons_zero, List.getElem_cons_succ, List.setIfInBounds_toArray, List.set_cons_zero, List.set_cons_succ])
              refine wpAnyH_take (i := 40) (v := undef) rfl (by kernel_rfl) (by kernel_rfl) (by kernel_rfl) (fun _ _ _ h => h) (Or.inr ⟨by rfl, rfl⟩) (by assumption) ?_
              (try simp only [Act.put, List.getElem_toArray, List.getElem_cons_zero, List.getElem_cons_succ, List.setIfInBounds_toArray, List.set_cons_zero, List.set_cons_succ])
              refine wpAnyH_take (i := 41) (v := undef) rfl (by kernel_rfl) (by kernel_rfl) (by kernel_rfl) (fun _ _ _ h => h) (Or.inr ⟨by rfl, rfl⟩) (by assumption) ?_
              (try simp only [Act.put, List.getElem_toArray, List.getElem_cons_zero, List.getElem_cons_succ, List.setIfInBounds_toArray, List.set_cons_zero, List.set_cons_succ])
              refine wpAnyH_take (i := 42) (v := undef) rfl (by kernel_rfl) (by kernel_rfl) (by kernel_rfl) (fun _ _ _ h => h) (Or.inr ⟨by rfl, rfl⟩) (by assumption) ?_
              (try simp only [Act.put, List.getElem_toArray, List.getElem_cons_zero, List.getElem_cons_succ, List.setIfInBounds_toArray, List.set_cons_zero, List.set_cons_succ])
              refine wpAnyH_take (i := 43) (v := undef) rfl (by kernel_rfl) (by kernel_rfl) (by kernel_rfl) (fun _ _ _ h => h) (Or.inr ⟨by rfl, rfl⟩) (by assumption) ?_
              (try simp only [Act.put, List.getElem_toArray, List.getElem_cons_zero, List.getElem_cons_succ, List.setIfInBounds_toArray, List.set_cons_zero, List.set_cons_succ])
              refine wpAnyH_take (i := 44) (v := undef) rfl (by kernel_rfl) (by kernel_rfl) (by kernel_rfl) (fun _ _ _ h => h) (Or.inr ⟨by rfl, rfl⟩) (by assumption) ?_
              (try simp only [Act.put, List.getElem_toArray, List.getElem_cons_zero, List.getElem_cons_succ, List.setIfInBounds_toArray, List.set_cons_zero, List.set_cons_succ])
              refine wpAnyH_take (i := 45) (v := ?_) rfl (by kernel_rfl) (by kernel_rfl) (by kernel_rfl) (fun _ _ _ h => h) (Or.inl ⟨by rfl, ?_⟩) (by assumption) ?_
              rotate_left
              · intro w hSw; (try dsimp only at hSw); go_simp; (try with_reducible rfl)
              (try simp only [Act.put, List.getElem_toArray, List.getElem_cons_zero, List.getElem_cons_succ, List.setIfInBounds_toArray, List.set_cons_zero, List.set_cons_succ])
              refine wpAnyH_done (by kernel_rfl) ?_ _
              refine NoPanic.normal ?_
              go_wp2
              go_roundw
              case rel => exact ⟨l + 1, q2 + 1, by omega, by go_num, rfl⟩
              case measure => simp [intOf]; omega
            obtain ⟨h1, h2, h3⟩ := HAC.out hai
            subst h2
            have h1' : decide (a1 < wd) = false := by rw [decide_eq_false_iff_not]; omega
            subst hai
            by_cases hdm : d0 = most
            rotate_left
            · have hdm' : (d0 == most) = false := by simpa using hdm
              clear hdm
              clear h1 h3
              go_wp2
              refine wp_region_noPanic ?_
              refine wp_region_held_drew (S := (fun w' => w'.cell? ⟨b_, off_ + k * 5, none⟩ = some (.int .i64 a0) ∧ w'.cell? ⟨b_, off_ + k * 5 + 1, none⟩ = some (.int .i64 a1) ∧ w'.cell? ⟨b_, off_ + k * 5 + 4, none⟩ = some (.int .i64 0) ∧ w'.cell? ⟨b_, off_ + l * 5, none⟩ = some (.int .i64 d0) ∧ w'.cell? ⟨b_, off_ + l * 5 + 1, none⟩ = some (.int .i64 d1))) (by kernel_rfl) (by exact ⟨ga0, ga1, ga4, gd0, gd1⟩) (fun hHeld => ?_)
              refine wpAnyH_take (i := 0) (v := ?_) rfl (by kernel_rfl) (by kernel_rfl) (by kernel_rfl) (fun _ _ _ h => h) (Or.inl ⟨by rfl, ?_⟩) (by assumption) ?_
              rotate_left
              · intro w hSw; (try dsimp only at hSw); go_simp; (try with_reducible rfl)
              (try simp only [Act.put, List.getElem_toArray, List.getElem_cons_zero, List.setIfInBounds_toArray, List.set_cons_zero, List.set_cons_succ])
              refine wpAnyH_take (i := 1) (v := ?_) rfl (by kernel_rfl) (by kernel_rfl) (by kernel_rfl) (fun _ _ _ h => h) (Or.inl ⟨by rfl, ?_⟩) (by assumption) ?_
              rotate_left
              · intro w hSw; (try dsimp only at hSw); go_simp; (try with_reducible rfl)
              (try simp only [Act.put, List.getElem_toArray, List.getElem_cons_zero, List.getElem_cons_succ, List.setIfInBounds_toArray, List.set_cons_zero, List.set_cons_succ])
              refine wpAnyH_take (i := 2) (v := ?_) rfl (by kernel_rfl) (by kernel_rfl) (by kernel_rfl) (fun _ _ _ h => h) (Or.inl ⟨by rfl, ?_⟩) (by assumption) ?_
              rotate_left
              · intro w hSw; (try dsimp only at hSw); go_simp; (try with_reducible rfl)
              (try simp only [Act.put, List.getElem_toArray, List.getElem_cons_zero, List.getElem_cons_succ, List.setIfInBounds_toArray, List.set_cons_zero, List.set_cons_succ])
              refine wpAnyH_take (i := 3) (v := ?_) rfl (by kernel_rfl) (by kernel_rfl) (by kernel_rfl) (fun _ _ _ h => h) (Or.inl ⟨by rfl, ?_⟩) (by assumption) ?_
              rotate_left
              · intro w hSw; (try dsimp only at hSw); go_simp; (try with_reducible rfl)
              (try simp only [Act.put, List.getElem_toArray, List.getElem_cons_zero, List.getElem_cons_succ, List.setIfInBounds_toArray, List.set_cons_zero, List.set_cons_succ])
              refine wpAnyH_take (i := 4) (v := ?_) rfl (by kernel_rfl) (by kernel_rfl) (by kernel_rfl) (fun _ _ _ h => h) (Or.inl ⟨by rfl, ?_⟩) (by assumption) ?_
              rotate_left
              · intro w hSw; (try dsimp only at hSw); go_simp; (try with_reducible rfl)
              (try simp only [Act.put, List.getElem_toArray, List.getElem_cons_zero, List.getElem_cons_succ, List.setIfInBounds_toArray, List.set_cons_zero, List.set_cons_succ])
              refine wpAnyH_take (i := 5) (v := ?_) rfl (by kernel_rfl) (by kernel_rfl) (by kernel_rfl) (fun _ _ _ h => h) (Or.inl ⟨by rfl, ?_⟩) (by assumption) ?_
              rotate_left
              · intro w hSw; (try dsimp only at hSw); go_simp; (try with_reducible rfl)
              (try simp only [Act.put, List.getElem_toArray, List.getElem_cons_zero, List.getElem_cons_succ, List.setIfInBounds_toArray, List.set_cons_zero, List.set_cons_succ])
              refine wpAnyH_take (i := 6) (v := ?_) rfl (by kernel_rfl) (by kernel_rfl) (by kernel_rfl) (fun _ _ _ h => h) (Or.inl ⟨by rfl, ?_⟩) (by assumption) ?_
              rotate_left
              · intro w hSw; (try dsimp only at hSw); go_simp; (try with_reducible rfl)
              (try simp only [Act.put, List.getElem_toArray, List.getElem_cons_zero, List.getElem_cons_succ, List.setIfInBounds_toArray, List.set_cons_zero, List.set_cons_succ])
              refine wpAnyH_take (i := 7) (v := ?_) rfl (by kernel_rfl) (by kernel_rfl) (by kernel_rfl) (fun _ _ _ h => h) (Or.inl ⟨by rfl, ?_⟩) (by assumption) ?_
              rotate_left
              · intro w hSw; (try dsimp only at hSw); go_simp; (try with_reducible rfl)
              (try simp only [Act.put, List.getElem_toArray, List.getElem_cons_zero, List.getElem_cons_succ, List.setIfInBounds_toArray, List.set_cons_zero, List.set_cons_succ])
              refine wpAnyH_take (i := 8) (v := ?_) rfl (by kernel_rfl) (by kernel_rfl) (by kernel_rfl) (fun _ _ _ h => h) (Or.inl ⟨by rfl, ?_⟩) (by assumption) ?_
              rotate_left
              · intro w hSw; (try dsimp only at hSw); go_simp; (try with_reducible rfl)
              (try simp only [Act.put, List.getElem_toArray, List.getElem_cons_zero, List.getElem_cons_succ, List.setIfInBounds_toArray, List.set_cons_zero, List.set_cons_succ])
              refine wpAnyH_take (i := 9) (v := ?_) rfl (by kernel_rfl) (by kernel_rfl) (by kernel_rfl) (fun _ _ _ h => h) (Or.inl ⟨by rfl, ?_⟩) (by assumption) ?_
              rotate_left
              · intro w hSw; (try dsimp only at hSw); go_simp; (try with_reducible rfl)
              (try simp only [Act.put, List.getElem_toArray, List.getElem_cons_zero, List.getElem_cons_succ, List.setIfInBounds_toArray, List.set_cons_zero, List.set_cons_succ])
              refine wpAnyH_take (i := 10) (v := ?_) rfl (by kernel_rfl) (by kernel_rfl) (by kernel_rfl) (fun _ _ _ h => h) (Or.inl ⟨by rfl, ?_⟩) (by assumption) ?_
              rotate_left
              · intro w hSw; (try dsimp only at hSw); go_simp; (try with_reducible rfl)
              (try simp only [Act.put, List.getElem_toArray, List.getElem_cons_zero, List.getElem_cons_succ, List.setIfInBounds_toArray, List.set_cons_zero, List.set_cons_succ])
              refine wpAnyH_take (i := 11) (v := ?_) rfl (by kernel_rfl) (by kernel_rfl) (by kernel_rfl) (fun _ _ _ h => h) (Or.inl ⟨by rfl, ?_⟩) (by assumption) ?_
              rotate_left
              · intro w hSw; (try dsimp only at hSw); go_simp; (try with_reducible rfl)
              (try simp only [Act.put, List.getElem_toArray, List.getElem_cons_zero, List.getElem_cons_succ, List.setIfInBounds_toArray, List.set_cons_zero, List.set_cons_succ])
              refine wpAnyH_take (i := 12) (v := ?_) rfl (by kernel_rfl) (by kernel_rfl) (by kernel_rfl) (fun _ _ _ h => h) (Or.inl ⟨by rfl, ?_⟩) (by assumption) ?_
              rotate_left
              · intro w hSw; (try dsimp only at hSw); go_simp; (try with_reducible rfl)
              (try simp only [Act.put, List.getElem_toArray, List.getElem_cons_zero, List.getElem_cons_succ, List.setIfInBounds_toArray, List.set_cons_zero, List.set_cons_succ])
              refine wpAnyH_take (i := 13) (v := ?_) rfl (by kernel_rfl) (by kernel_rfl) (by kernel_rfl) (fun _ _ _ h => h) (Or.inl ⟨by rfl, ?_⟩) (by assumption) ?_
              rotate_left
              · intro w hSw; (try dsimp only at hSw); go_simp; (try with_reducible rfl)
              (try simp only [Act.put, List.getElem_toArray, List.getElem_cons_zero, List.getElem_cons_succ, List.setIfInBounds_toArray, List.set_cons_zero, List.set_cons_succ])
              refine wpAnyH_take (i := 14) (v := ?_) rfl (by kernel_rfl) (by kernel_rfl) (by kernel_rfl) (fun _ _ _ h => h) (Or.inl ⟨by rfl, ?_⟩) (by assumption) ?_
              rotate_left
              · intro w hSw; (try dsimp only at hSw); go_simp; (try with_reducible rfl)
              (try simp only [Act.put, List.getElem_toArray, List.getElem_cons_zero, List.getElem_cons_succ, List.setIfInBounds_toArray, List.set_cons_zero, List.set_cons_succ])
              refine wpAnyH_take (i := 15) (v := ?_) rfl (by kernel_rfl) (by kernel_rfl) (by kernel_rfl) (fun _ _ _ h => h) (Or.inl ⟨by rfl, ?_⟩) (by assumption) ?_
              rotate_left
              · intro w hSw; (try dsimp only at hSw); go_simp; (try with_reducible rfl)
              (try simp only [Act.put, List.getElem_toArray, List.getElem_cons_zero, List.getElem_cons_succ, List.setIfInBounds_toArray, List.set_cons_zero, List.set_cons_succ])
              refine wpAnyH_take (i := 16) (v := ?_) rfl (by kernel_rfl) (by kernel_rfl) (by kernel_rfl) (fun _ _ _ h => h) (Or.inl ⟨by rfl, ?_⟩) (by assumption) ?_
              rotate_left
              · intro w hSw; (try dsimp only at hSw); go_simp; (try with_reducible rfl)
              (try simp only [Act.put, List.getElem_toArray, List.getElem_cons_zero, List.getElem_cons_succ, List.setIfInBounds_toArray, List.set_cons_zero, List.set_cons_succ])
              refine wpAnyH_take (i := 17) (v := ?_) rfl (by kernel_rfl) (by kernel_rfl) (by kernel_rfl) (fun _ _ _ h => h) (Or.inl ⟨by rfl, ?_⟩) (by assumption) ?_
              rotate_left
              · intro w hSw; (try dsimp only at hSw); go_simp; (try with_reducible rfl)
              (try simp only [Act.put, List.getElem_toArray, List.getElem_cons_zero, List.getElem_cons_succ, List.setIfInBounds_toArray, List.set_cons_zero, List.set_cons_succ])
              refine wpAnyH_take (i := 18) (v := ?_) rfl (by kernel_rfl) (by kernel_rfl) (by kernel_rfl) (fun _ _ _ h => h) (Or.inl ⟨by rfl, ?_⟩) (by assumption) ?_
              rotate_left
              · intro w hSw; (try dsimp only at hSw); go_simp; (try with_reducible rfl)
              (try simp only [Act.put, List.getElem_toArray, List.getElem_cons_zero, List.getElem_cons_succ, List.setIfInBounds_toArray, List.set_cons_zero, List.set_cons_succ])
              refine wpAnyH_take (i := 19) (v := ?_) rfl (by kernel_rfl) (by kernel_rfl) (by kernel_rfl) (fun _ _ _ h => h) (Or.inl ⟨by rfl, ?_⟩) (by assumption) ?_
              rotate_left
              · intro w hSw; (try dsimp only at hSw); go_simp; (try with_reducible rfl)
              (try simp only [Act.put, List.getElem_toArray, List.getElem_cons_zero, List.getElem_cons_succ, List.setIfInBounds_toArray, List.set_cons_zero, List.set_cons_succ])
              refine wpAnyH_take (i := 20) (v := ?_) rfl (by kernel_rfl) (by kernel_rfl) (by kernel_rfl) (fun _ _ _ h => h) (Or.inl ⟨by rfl, ?_⟩) (by assumption) ?_
              rotate_left
              · intro w hSw; (try dsimp only at hSw); go_simp; (try with_reducible rfl)
              (try simp only [Act.put, List.getElem_toArray, List.getElem_cons_zero, List.getElem_cons_succ, List.setIfInBounds_toArray, List.set_cons_zero, List.set_cons_succ])
              refine wpAnyH_take (i := 21) (v := ?_) rfl (by kernel_rfl) (by kernel_rfl) (by kernel_rfl) (fun _ _ _ h => h) (Or.inl ⟨by rfl, ?_⟩) (by assumption) ?_
              rotate_left
              · intro w hSw; (try dsimp only at hSw); go_simp; (try with_reducible rfl)
              (try simp only [Act.put, List.getElem_toArray, List.getElem_cons_zero, List.getElem_cons_succ, List.setIfInBounds_toArray, List.set_cons_zero, List.set_cons_succ])
              refine wpAnyH_take (i := 22) (v := ?_) rfl (by kernel_rfl) (by kernel_rfl) (by kernel_rfl) (fun _ _ _ h => h) (Or.inl ⟨by rfl, ?_⟩) (by assumption) ?_
              rotate_left
              · intro w hSw; (try dsimp only at hSw); go_simp; (try with_reducible rfl)
              (try simp only [Act.put, List.getElem_toArray, List.getElem_cons_zero, List.getElem_cons_succ, List.setIfInBounds_toArray, List.set_cons_zero, List.set_cons_succ])
              refine wpAnyH_take (i := 23) (v := ?_) rfl (by kernel_rfl) (by kernel_rfl) (by kernel_rfl) (fun _ _ _ h => h) (Or.inl ⟨by rfl, ?_⟩) (by assumption) ?_
              rotate_left
              · intro w hSw; (try dsimp only at hSw); go_simp; (try with_reducible rfl)
              (try simp only [Act.put, List.getElem_toArray, List.getElem_cons_zero, List.getElem_cons_succ, List.setIfInBounds_toArray, List.set_cons_zero, List.set_cons_succ])
              refine wpAnyH_take (i := 24) (v := ?_) rfl (by kernel_rfl) (by kernel_rfl) (by kernel_rfl) (fun _ _ _ h => h) (Or.inl ⟨by rfl, ?_⟩) (by assumption) ?_
              rotate_left
              · intro w hSw; (try dsimp only at hSw); go_simp; (try with_reducible rfl)
              (try simp only [Act.put, List.getElem_toArray, List.getElem_cons_zero, List.getElem_cons_succ, List.setIfInBounds_toArray, List.set_cons_zero, List.set_cons_succ])
              refine wpAnyH_take (i := 25) (v := ?_) rfl (by kernel_rfl) (by kernel_rfl) (by kernel_rfl) (fun _ _ _ h => h) (Or.inl ⟨by rfl, ?_⟩) (by assumption) ?_
              rotate_left
              · intro w hSw; (try dsimp only at hSw); go_simp; (try with_reducible rfl)
              (try simp only [Act.put, List.getElem_toArray, List.getElem_cons_zero, List.getElem_cons_succ, List.setIfInBounds_toArray, List.set_cons_zero, List.set_cons_succ])
              refine wpAnyH_take (i := 26) (v := ?_) rfl (by kernel_rfl) (by kernel_rfl) (by kernel_rfl) (fun _ _ _ h => h) (Or.inl ⟨by rfl, ?_⟩) (by assumption) ?_
              rotate_left
              · intro w hSw; (try dsimp only at hSw); go_simp; (try with_reducible rfl)
              (try simp only [Act.put, List.getElem_toArray, List.getElem_cons_zero, List.getElem_cons_succ, List.setIfInBounds_toArray, List.set_cons_zero, List.set_cons_succ])
              refine wpAnyH_take (i := 27) (v := ?_) rfl (by kernel_rfl) (by kernel_rfl) (by kernel_rfl) (fun _ _ _ h => h) (Or.inl ⟨by rfl, ?_⟩) (by assumption) ?_
              rotate_left
              · intro w hSw; (try dsimp only at hSw); go_simp; (try with_reducible rfl)
              (try simp only [Act.put, List.getElem_toArray, List.getElem_cons_zero, List.getElem_cons_succ, List.setIfInBounds_toArray, List.set_cons_zero, List.set_cons_succ])
              refine wpAnyH_take (i := 28) (v := ?_) rfl (by kernel_rfl) (by kernel_rfl) (by kernel_rfl) (fun _ _ _ h => h) (Or.inl ⟨by rfl, ?_⟩) (by assumption) ?_
              rotate_left
              · intro w hSw; (try dsimp only at hSw); go_simp; (try with_reducible rfl)
              (try simp only [Act.put, List.getElem_toArray, List.getElem_cons_zero, List.getElem_cons_succ, List.setIfInBounds_toArray, List.set_cons_zero, List.set_cons_succ])
              refine wpAnyH_take (i := 29) (v := ?_) rfl (by kernel_rfl) (by kernel_rfl) (by kernel_rfl) (fun _ _ _ h => h) (Or.inl ⟨by rfl, ?_⟩) (by assumption) ?_
              rotate_left
              · intro w hSw; (try dsimp only at hSw); go_simp; (try with_reducible rfl)
              (try simp only [Act.put, List.getElem_toArray, List.getElem_cons_zero, List.getElem_cons_succ, List.setIfInBounds_toArray, List.set_cons_zero, List.set_cons_succ])
              refine wpAnyH_take (i := 30) (v := ?_) rfl (by kernel_rfl) (by kernel_rfl) (by kernel_rfl) (fun _ _ _ h => h) (Or.inl ⟨by rfl, ?_⟩) (by assumption) ?_
              rotate_left
              · intro w hSw; (try dsimp only at hSw); go_simp; (try with_reducible rfl)
              (try simp only [Act.put, List.getElem_toArray, List.getElem_cons_zero, List.getElem_cons_succ, List.setIfInBounds_toArray, List.set_cons_zero, List.set_cons_succ])
              refine wpAnyH_take (i := 31) (v := ?_) rfl (by kernel_rfl) (by kernel_rfl) (by kernel_rfl) (fun _ _ _ h => h) (Or.inl ⟨by rfl, ?_⟩) (by assumption) ?_
              rotate_left
              · intro w hSw; (try dsimp only at hSw); go_simp; (try with_reducible rfl)
              (try simp only [Act.put, List.getElem_toArray, List.getElem_cons_zero, List.getElem_cons_succ, List.setIfInBounds_toArray, List.set_cons_zero, List.set_cons_succ])
              refine wpAnyH_take (i := 32) (v := undef) rfl (by kernel_rfl) (by kernel_rfl) (by kernel_rfl) (fun _ _ _ h => h) (Or.inr ⟨by rfl, rfl⟩) (by assumption) ?_
              (try simp only [Act.put, List.getElem_toArray, List.getElem_cons_zero, List.getElem_cons_succ, List.setIfInBounds_toArray, List.set_cons_zero, List.set_cons_succ])
              refine wpAnyH_take (i := 33) (v := undef) rfl (by kernel_rfl) (by kernel_rfl) (by kernel_rfl) (fun _ _ _ h => h) (Or.inr ⟨by rfl, rfl⟩) (by assumption) ?_
              (try simp only [Act.put, List.getElem_toArray, List.getElem_cons_zero, List.getElem_cons_succ, List.setIfInBounds_toArray, List.set_cons_zero, List.set_cons_succ])
              refine wpAnyH_take (i := 34) (v := undef) rfl (by kernel_rfl) (by kernel_rfl) (by kernel_rfl) (fun _ _ _ h => h) (Or.inr ⟨by rfl, rfl⟩) (by assumption) ?_
              (try simp only [Act.put, List.getElem_toArray, List.getElem_cons_zero, List.getElem_cons_succ, List.setIfInBounds_toArray, List.set_cons_zero, List.set_cons_succ])
              refine wpAnyH_take (i := 35) (v := undef) rfl (by kernel_rfl) (by kernel_rfl) (by kernel_rfl) (fun _ _ _ h => h) (Or.inr ⟨by rfl, rfl⟩) (by assumption) ?_
              (try simp only [Act.put, List.getElem_toArray, List.getElem_cons_zero, List.getElem_cons_succ, List.setIfInBounds_toArray, List.set_cons_zero, List.set_cons_succ])
              refine wpAnyH_take (i := 36) (v := undef) rfl (by kernel_rfl) (by kernel_rfl) (by kernel_rfl) (fun _ _ _ h => h) (Or.inr ⟨by rfl, rfl⟩) (by assumption) ?_
              (try simp only [Act.put, List.getElem_toArray, List.getElem_cons_zero, List.getElem_cons_succ, List.setIfInBounds_toArray, List.set_cons_zero, List.set_cons_succ])
              refine wpAnyH_take (i := 37) (v := undef) rfl (by kernel_rfl) (by kernel_rfl) (by kernel_rfl) (fun _ _ _ h => h) (Or.inr ⟨by rfl, rfl⟩) (by assumption) ?_
              (try simp only [Act.put, List.getElem_toArray, List.getElem_cons_zero, List.getElem_cons_succ, List.setIfInBounds_toArray, List.set_cons_zero, List.set_cons_succ])
              refine wpAnyH_take (i := 38) (v := undef) rfl (by kernel_rfl) (by kernel_rfl) (by kernel_rfl) (fun _ _ _ h => h) (Or.inr ⟨by rfl, rfl⟩) (by assumption) ?_
              (try simp only [Act.put, List.getElem_toArray, List.getElem_cons_zero, List.getElem_cons_succ, List.setIfInBounds_toArray, List.set_cons_zero, List.set_cons_succ])
              refine wpAnyH_take (i := 39) (v := undef) rfl (by kernel_rfl) (by kernel_rfl) (by kernel_rfl) (fun _ _ _ h => h) (Or.inr ⟨by rfl, rfl⟩) (by assumption) ?_
              (try simp only [Act.put, List.getElem_toArray, List.getElem_cons_zero, List.getElem_cons_succ, List.setIfInBounds_toArray, List.set_cons_zero, List.set_cons_succ])
              refine wpAnyH_take (i := 40) (v := undef) rfl (by kernel_rfl) (by kernel_rfl) (by kernel_rfl) (fun _ _ _ h => h) (Or.inr ⟨by rfl, rfl⟩) (by assumption) ?_
              (try simp only [Act.put, List.getElem_toArray, List.getElem_cons_zero, List.getElem_cons_succ, List.setIfInBounds_toArray, List.set_cons_zero, List.set_cons_succ])
              refine wpAnyH_take (i := 41) (v := undef) rfl (by kernel_rfl) (by kernel_rfl) (by kernel_rfl) (fun _ _ _ h => h) (Or.inr ⟨by rfl, rfl⟩) (by assumption) ?_
              (try simp only [Act.put, List.getElem_toArray, List.getElem_cons_zero, List.getElem_cons_succ, List.setIfInBounds_toArray, List.set_cons_zero, List.set_cons_succ])
              refine wpAnyH_take (i := 42) (v := undef) rfl (by kernel_rfl) (by kernel_rfl) (by kernel_rfl) (fun _ _ _ h => h) (Or.inr ⟨by rfl, rfl⟩) (by assumption) ?_
              (try simp only [Act.put, List.getElem_toArray, List.getElem_cons_zero, List.getElem_cons_succ, List.setIfInBounds_toArray, List.set_cons_zero, List.set_cons_succ])
              refine wpAnyH_take (i := 43) (v := ?_) rfl (by kernel_rfl) (by kernel_rfl) (by kernel_rfl) (fun _ _ _ h => h) (Or.inl ⟨by rfl, ?_⟩) (by assumption) ?_
              rotate_left
              · intro w hSw; (try dsimp only at hSw); go_simp; (try with_reducible rfl)
              (try simp only [Act.put, List.getElem_toArray, List.getElem_cons_zero, List.getElem_cons_succ, List.setIfInBounds_toArray, List.set_cons_zero, List.set_cons_succ])
              refine wpAnyH_take (i := 44) (v := ?_) rfl (by kernel_rfl) (by kernel_rfl) (by kernel_rfl) (fun _ _ _ h => h) (Or.inl ⟨by rfl, ?_⟩) (by assumption) ?_
              rotate_left
              · intro w hSw; (try dsimp only at hSw); go_simp; (try with_reducible rfl)
              (try simp only [Act.put, List.getElem_toArray, List.getElem_cons_zero, List.getElem_cons_succ, List.setIfInBounds_toArray, List.set_cons_zero, List.set_cons_succ])
              refine wpAnyH_take (i := 45) (v := ?_) rfl (by kernel_rfl) (by kernel_rfl) (by kernel_rfl) (fun _ _ _ h => h) (Or.inl ⟨by rfl, ?_⟩) (by assumption) ?_
              rotate_left
              · intro w hSw; (try dsimp only at hSw); go_simp; (try with_reducible rfl)
              (try simp only [Act.put, List.getElem_toArray, List.getElem_cons_zero, List.getElem_cons_succ, List.setIfInBounds_toArray, List.set_cons_zero, List.set_cons_succ])
              refine wpAnyH_done (by kernel_rfl) ?_ _
              refine NoPanic.normal ?_
              go_wp2
              go_roundw
              case rel => exact ⟨l + 1, q2 + 1, by omega, by go_num, rfl⟩
              case measure => simp [intOf]; omega
            have h4 := h3 l _ HD.out hdm
            have h4' : decide (d1 < a1) = false := by have h5 : a1 ≤ d1 := (by simpa using h4); rw [decide_eq_false_iff_not]; omega
            subst hdm
            clear h1 h3 h4
            go_wp2
            refine wp_region_noPanic ?_
            refine wp_region_held_drew (S := (fun w' => w'.cell? ⟨b_, off_ + k * 5, none⟩ = some (.int .i64 a0) ∧ w'.cell? ⟨b_, off_ + k * 5 + 1, none⟩ = some (.int .i64 a1) ∧ w'.cell? ⟨b_, off_ + k * 5 + 4, none⟩ = some (.int .i64 0) ∧ w'.cell? ⟨b_, off_ + l * 5, none⟩ = some (.int .i64 d0) ∧ w'.cell? ⟨b_, off_ + l * 5 + 1, none⟩ = some (.int .i64 d1))) (by kernel_rfl) (by exact ⟨ga0, ga1, ga4, gd0, gd1⟩) (fun hHeld => ?_)
            refine wpAnyH_take (i := 0) (v := ?_) rfl (by kernel_rfl) (by kernel_rfl) (by kernel_rfl) (fun _ _ _ h => h) (Or.inl ⟨by rfl, ?_⟩) (by assumption) ?_
            rotate_left
            · intro w hSw; (try dsimp only at hSw); go_simp; (try with_reducible rfl)
            (try simp only [Act.put, List.getElem_toArray, List.getElem_cons_zero, List.setIfInBounds_toArray, List.set_cons_zero, List.set_cons_succ])
            refine wpAnyH_take (i := 1) (v := ?_) rfl (by kernel_rfl) (by kernel_rfl) (by kernel_rfl) (fun _ _ _ h => h) (Or.inl ⟨by rfl, ?_⟩) (by assumption) ?_
            rotate_left
            · intro w hSw; (try dsimp only at hSw); go_simp; (try with_reducible rfl)
            (try simp only [Act.put, List.getElem_toArray, List.getElem_cons_zero, List.getElem_cons_succ, List.setIfInBounds_toArray, List.set_cons_zero, List.set_cons_succ])
            refine wpAnyH_take (i := 2) (v := ?_) rfl (by kernel_rfl) (by kernel_rfl) (by kernel_rfl) (fun _ _ _ h => h) (Or.inl ⟨by rfl, ?_⟩) (by assumption) ?_
            rotate_left
            · intro w hSw; (try dsimp only at hSw); go_simp; (try with_reducible rfl)
            (try simp only [Act.put, List.getElem_toArray, List.getElem_cons_zero, List.getElem_cons_succ, List.setIfInBounds_toArray, List.set_cons_zero, List.set_cons_succ])
            refine wpAnyH_take (i := 3) (v := ?_) rfl (by kernel_rfl) (by kernel_rfl) (by kernel_rfl) (fun _ _ _ h => h) (Or.inl ⟨by rfl, ?_⟩) (by assumption) ?_
            rotate_left
            · intro w hSw; (try dsimp only at hSw); go_simp; (try with_reducible rfl)
            (try simp only [Act.put, List.getElem_toArray, List.getElem_cons_zero, List.getElem_cons_succ, List.setIfInBounds_toArray, List.set_cons_zero, List.set_cons_succ])
            refine wpAnyH_take (i := 4) (v := ?_) rfl (by kernel_rfl) (by kernel_rfl) (by kernel_rfl) (fun _ _ _ h => h) (Or.inl ⟨by rfl, ?_⟩) (by assumption) ?_
            rotate_left
            · intro w hSw; (try dsimp only at hSw); go_simp; (try with_reducible rfl)
            (try simp only [Act.put, List.getElem_toArray, List.getElem_cons_zero, List.getElem_cons_succ, List.setIfInBounds_toArray, List.set_cons_zero, List.set_cons_succ])
            refine wpAnyH_take (i := 5) (v := ?_) rfl (by kernel_rfl) (by kernel_rfl) (by kernel_rfl) (fun _ _ _ h => h) (Or.inl ⟨by rfl, ?_⟩) (by assumption) ?_
            rotate_left
            · intro w hSw; (try dsimp only at hSw); go_simp; (try with_reducible rfl)
            (try simp only [Act.put, List.getElem_toArray, List.getElem_cons_zero, List.getElem_cons_succ, List.setIfInBounds_toArray, List.set_cons_zero, List.set_cons_succ])
            refine wpAnyH_take (i := 6) (v := ?_) rfl (by kernel_rfl) (by kernel_rfl) (by kernel_rfl) (fun _ _ _ h => h) (Or.inl ⟨by rfl, ?_⟩) (by assumption) ?_
            rotate_left
            · intro w hSw; (try dsimp only at hSw); go_simp; (try with_reducible rfl)
            (try simp only [Act.put, List.getElem_toArray, List.getElem_cons_zero, List.getElem_cons_succ, List.setIfInBounds_toArray, List.set_cons_zero, List.set_cons_succ])
            refine wpAnyH_take (i := 7) (v := ?_) rfl (by kernel_rfl) (by kernel_rfl) (by kernel_rfl) (fun _ _ _ h => h) (Or.inl ⟨by rfl, ?_⟩) (by assumption) ?_
            rotate_left
            · intro w hSw; (try dsimp only at hSw); go_simp; (try with_reducible rfl)
            (try simp only [Act.put, List.getElem_toArray, List.getElem_cons_zero, List.getElem_cons_succ, List.setIfInBounds_toArray, List.set_cons_zero, List.set_cons_succ])
            refine wpAnyH_take (i := 8) (v := ?_) rfl (by kernel_rfl) (by kernel_rfl) (by kernel_rfl) (fun _ _ _ h => h) (Or.inl ⟨by rfl, ?_⟩) (by assumption) ?_
            rotate_left
            · intro w hSw; (try dsimp only at hSw); go_simp; (try with_reducible rfl)
            (try simp only [Act.put, List.getElem_toArray, List.getElem_cons_zero, List.getElem_cons_succ, List.setIfInBounds_toArray, List.set_cons_zero, List.set_cons_succ])
            refine wpAnyH_take (i := 9) (v := ?_) rfl (by kernel_rfl) (by kernel_rfl) (by kernel_rfl) (fun _ _ _ h => h) (Or.inl ⟨by rfl, ?_⟩) (by assumption) ?_
            rotate_left
            · intro w hSw; (try dsimp only at hSw); go_simp; (try with_reducible rfl)
            (try simp only [Act.put, List.getElem_toArray, List.getElem_cons_zero, List.getElem_cons_succ, List.setIfInBounds_toArray, List.set_cons_zero, List.set_cons_succ])
            refine wpAnyH_take (i := 10) (v := ?_) rfl (by kernel_rfl) (by kernel_rfl) (by kernel_rfl) (fun _ _ _ h => h) (Or.inl ⟨by rfl, ?_⟩) (by assumption) ?_
            rotate_left
            · intro w hSw; (try dsimp only at hSw); go_simp; (try with_reducible rfl)
            (try simp only [Act.put, List.getElem_toArray, List.getElem_cons_zero, List.getElem_cons_succ, List.setIfInBounds_toArray, List.set_cons_zero, List.set_cons_succ])
            refine wpAnyH_take (i := 11) (v := ?_) rfl (by kernel_rfl) (by kernel_rfl) (by kernel_rfl) (fun _ _ _ h => h) (Or.inl ⟨by rfl, ?_⟩) (by assumption) ?_
            rotate_left
            · intro w hSw; (try dsimp only at hSw); go_simp; (try with_reducible rfl)
            (try simp only [Act.put, List.getElem_toArray, List.getElem_cons_zero, List.getElem_cons_succ, List.setIfInBounds_toArray, List.set_cons_zero, List.set_cons_succ])
            refine wpAnyH_take (i := 12) (v := ?_) rfl (by kernel_rfl) (by kernel_rfl) (by kernel_rfl) (fun _ _ _ h => h) (Or.inl ⟨by rfl, ?_⟩) (by assumption) ?_
            rotate_left
            · intro w hSw; (try dsimp only at hSw); go_simp; (try with_reducible rfl)
            (try simp only [Act.put, List.getElem_toArray, List.getElem_cons_zero, List.getElem_cons_succ, List.setIfInBounds_toArray, List.set_cons_zero, List.set_cons_succ])
            refine wpAnyH_take (i := 13) (v := ?_) rfl (by kernel_rfl) (by kernel_rfl) (by kernel_rfl) (fun _ _ _ h => h) (Or.inl ⟨by rfl, ?_⟩) (by assumption) ?_
            rotate_left
            · intro w hSw; (try dsimp only at hSw); go_simp; (try with_reducible rfl)
            (try simp only [Act.put, List.getElem_toArray, List.getElem_cons_zero, List.getElem_cons_succ, List.setIfInBounds_toArray, List.set_cons_zero, List.set_cons_succ])
            refine wpAnyH_take (i := 14) (v := ?_) rfl (by kernel_rfl) (by kernel_rfl) (by kernel_rfl) (fun _ _ _ h => h) (Or.inl ⟨by rfl, ?_⟩) (by assumption) ?_
            rotate_left
            · intro w hSw; (try dsimp only at hSw); go_simp; (try with_reducible rfl)
            (try simp only [Act.put, List.getElem_toArray, List.getElem_cons_zero, List.getElem_cons_succ, List.setIfInBounds_toArray, List.set_cons_zero, List.set_cons_succ])
            refine wpAnyH_take (i := 15) (v := ?_) rfl (by kernel_rfl) (by kernel_rfl) (by kernel_rfl) (fun _ _ _ h => h) (Or.inl ⟨by rfl, ?_⟩) (by assumption) ?_
            rotate_left
            · intro w hSw; (try dsimp only at hSw); go_simp; (try with_reducible rfl)
            (try simp only [Act.put, List.getElem_toArray, List.getElem_cons_zero, List.getElem_cons_succ, List.setIfInBounds_toArray, List.set_cons_zero, List.set_cons_succ])
            refine wpAnyH_take (i := 16) (v := ?_) rfl (by kernel_rfl) (by kernel_rfl) (by kernel_rfl) (fun _ _ _ h => h) (Or.inl ⟨by rfl, ?_⟩) (by assumption) ?_
            rotate_left
            · intro w hSw; (try dsimp only at hSw); go_simp; (try with_reducible rfl)
            (try simp only [Act.put, List.getElem_toArray, List.getElem_cons_zero, List.getElem_cons_succ, List.setIfInBounds_toArray, List.set_cons_zero, List.set_cons_succ])
            refine wpAnyH_take (i := 17) (v := ?_) rfl (by kernel_rfl) (by kernel_rfl) (by kernel_rfl) (fun _ _ _ h => h) (Or.inl ⟨by rfl, ?_⟩) (by assumption) ?_
            rotate_left
            · intro w hSw; (try dsimp only at hSw); go_simp; (try with_reducible rfl)
            (try simp only [Act.put, List.getElem_toArray, List.getElem_cons_zero, List.getElem_cons_succ, List.setIfInBounds_toArray, List.set_cons_zero, List.set_cons_succ])
            refine wpAnyH_take (i := 18) (v := ?_) rfl (by kernel_rfl) (by kernel_rfl) (by kernel_rfl) (fun _ _ _ h => h) (Or.inl ⟨by rfl, ?_⟩) (by assumption) ?_
            rotate_left
            · intro w hSw; (try dsimp only at hSw); go_simp; (try with_reducible rfl)
            (try simp only [Act.put, List.getElem_toArray, List.getElem_cons_zero, List.getElem_cons_succ, List.setIfInBounds_toArray, List.set_cons_zero, List.set_cons_succ])
            refine wpAnyH_take (i := 19) (v := ?_) rfl (by kernel_rfl) (by kernel_rfl) (by kernel_rfl) (fun _ _ _ h => h) (Or.inl ⟨by rfl, ?_⟩) (by assumption) ?_
            rotate_left
            · intro w hSw; (try dsimp only at hSw); go_simp; (try with_reducible rfl)
            (try simp only [Act.put, List.getElem_toArray, List.getElem_cons_zero, List.getElem_cons_succ, List.setIfInBounds_toArray, List.set_cons_zero, List.set_cons_succ])
            refine wpAnyH_take (i := 20) (v := ?_) rfl (by kernel_rfl) (by kernel_rfl) (by kernel_rfl) (fun _ _ _ h => h) (Or.inl ⟨by rfl, ?_⟩) (by assumption) ?_
            rotate_left
            · intro w hSw; (try dsimp only at hSw); go_simp; (try with_reducible rfl)
            (try simp only [Act.put, List.getElem_toArray, List.getElem_cons_zero, List.getElem_cons_succ, List.setIfInBounds_toArray, List.set_cons_zero, List.set_cons_succ])
            refine wpAnyH_take (i := 21) (v := ?_) rfl (by kernel_rfl) (by kernel_rfl) (by kernel_rfl) (fun _ _ _ h => h) (Or.inl ⟨by rfl, ?_⟩) (by assumption) ?_
            rotate_left
            · intro w hSw; (try dsimp only at hSw); go_simp; (try with_reducible rfl)
            (try simp only [Act.put, List.getElem_toArray, List.getElem_cons_zero, List.getElem_cons_succ, List.setIfInBounds_toArray, List.set_cons_zero, List.set_cons_succ])
            refine wpAnyH_take (i := 22) (v := ?_) rfl (by kernel_rfl) (by kernel_rfl) (by kernel_rfl) (fun _ _ _ h => h) (Or.inl ⟨by rfl, ?_⟩) (by assumption) ?_
            rotate_left
            · intro w hSw; (try dsimp only at hSw); go_simp; (try with_reducible rfl)
            (try simp only [Act.put, List.getElem_toArray, List.getElem_cons_zero, List.getElem_cons_succ, List.setIfInBounds_toArray, List.set_cons_zero, List.set_cons_succ])
            refine wpAnyH_take (i := 23) (v := ?_) rfl (by kernel_rfl) (by kernel_rfl) (by kernel_rfl) (fun _ _ _ h => h) (Or.inl ⟨by rfl, ?_⟩) (by assumption) ?_
            rotate_left
            · intro w hSw; (try dsimp only at hSw); go_simp; (try with_reducible rfl)
            (try simp only [Act.put, List.getElem_toArray, List.getElem_cons_zero, List.getElem_cons_succ, List.setIfInBounds_toArray, List.set_cons_zero, List.set_cons_succ])
            refine wpAnyH_take (i := 24) (v := ?_) rfl (by kernel_rfl) (by kernel_rfl) (by kernel_rfl) (fun _ _ _ h => h) (Or.inl ⟨by rfl, ?_⟩) (by assumption) ?_
            rotate_left
            · intro w hSw; (try dsimp only at hSw); go_simp; (try with_reducible rfl)
            (try simp only [Act.put, List.getElem_toArray, List.getElem_cons_zero, List.getElem_cons_succ, List.setIfInBounds_toArray, List.set_cons_zero, List.set_cons_succ])
            refine wpAnyH_take (i := 25) (v := ?_) rfl (by kernel_rfl) (by kernel_rfl) (by kernel_rfl) (fun _ _ _ h => h) (Or.inl ⟨by rfl, ?_⟩) (by assumption) ?_
            rotate_left
            · intro w hSw; (try dsimp only at hSw); go_simp; (try with_reducible rfl)
            (try simp only [Act.put, List.getElem_toArray, List.getElem_cons_zero, List.getElem_cons_succ, List.setIfInBounds_toArray, List.set_cons_zero, List.set_cons_succ])
            refine wpAnyH_take (i := 26) (v := ?_) rfl (by kernel_rfl) (by kernel_rfl) (by kernel_rfl) (fun _ _ _ h => h) (Or.inl ⟨by rfl, ?_⟩) (by assumption) ?_
            rotate_left
            · intro w hSw; (try dsimp only at hSw); go_simp; (try with_reducible rfl)
            (try simp only [Act.put, List.getElem_toArray, List.getElem_cons_zero, List.getElem_cons_succ, List.setIfInBounds_toArray, List.set_cons_zero, List.set_cons_succ])
            refine wpAnyH_take (i := 27) (v := ?_) rfl (by kernel_rfl) (by kernel_rfl) (by kernel_rfl) (fun _ _ _ h => h) (Or.inl ⟨by rfl, ?_⟩) (by assumption) ?_
            rotate_left
            · intro w hSw; (try dsimp only at hSw); go_simp; (try with_reducible rfl)
            (try simp only [Act.put, List.getElem_toArray, List.getElem_cons_zero, List.getElem_cons_succ, List.setIfInBounds_toArray, List.set_cons_zero, List.set_cons_succ])
            refine wpAnyH_take (i := 28) (v := ?_) rfl (by kernel_rfl) (by kernel_rfl) (by kernel_rfl) (fun _ _ _ h => h) (Or.inl ⟨by rfl, ?_⟩) (by assumption) ?_
            rotate_left
            · intro w hSw; (try dsimp only at hSw); go_simp; (try with_reducible rfl)
            (try simp only [Act.put, List.getElem_toArray, List.getElem_cons_zero, List.getElem_cons_succ, List.setIfInBounds_toArray, List.set_cons_zero, List.set_cons_succ])
            refine wpAnyH_take (i := 29) (v := ?_) rfl (by kernel_rfl) (by kernel_rfl) (by kernel_rfl) (fun _ _ _ h => h) (Or.inl ⟨by rfl, ?_⟩) (by assumption) ?_
            rotate_left
            · intro w hSw; (try dsimp only at hSw); go_simp; (try with_reducible rfl)
            (try simp only [Act.put, List.getElem_toArray, List.getElem_cons_zero, List.getElem_cons_succ, List.setIfInBounds_toArray, List.set_cons_zero, List.set_cons_succ])
            refine wpAnyH_take (i := 30) (v := ?_) rfl (by kernel_rfl) (by kernel_rfl) (by kernel_rfl) (fun _ _ _ h => h) (Or.inl ⟨by rfl, ?_⟩) (by assumption) ?_
            rotate_left
            · intro w hSw; (try dsimp only at hSw); go_simp; (try with_reducible rfl)
            (try simp only [Act.put, List.getElem_toArray, List.getElem_cons_zero, List.getElem_cons_succ, List.setIfInBounds_toArray, List.set_cons_zero, List.set_cons_succ])
            refine wpAnyH_take (i := 31) (v := ?_) rfl (by kernel_rfl) (by kernel_rfl) (by kernel_rfl) (fun _ _ _ h => h) (Or.inl ⟨by rfl, ?_⟩) (by assumption) ?_
            rotate_left
            · intro w hSw; (try dsimp only at hSw); go_simp; (try with_reducible rfl)
            (try simp only [Act.put, List.getElem_toArray, List.getElem_cons_zero, List.getElem_cons_succ, List.setIfInBounds_toArray, List.set_cons_zero, List.set_cons_succ])
            refine wpAnyH_take (i := 32) (v := ?_) rfl (by kernel_rfl) (by kernel_rfl) (by kernel_rfl) (fun _ _ _ h => h) (Or.inl ⟨by rfl, ?_⟩) (by assumption) ?_
            rotate_left
            · intro w hSw; (try dsimp only at hSw); go_simp; (try with_reducible rfl)
            (try simp only [Act.put, List.getElem_toArray, List.getElem_cons_zero, List.getElem_cons_succ, List.setIfInBounds_toArray, List.set_cons_zero, List.set_cons_succ])
            refine wpAnyH_take (i := 33) (v := ?_) rfl (by kernel_rfl) (by kernel_rfl) (by kernel_rfl) (fun _ _ _ h => h) (Or.inl ⟨by rfl, ?_⟩) (by assumption) ?_
            rotate_left
            · intro w hSw; (try dsimp only at hSw); go_simp; (try with_reducible rfl)
            (try simp only [Act.put, List.getElem_toArray, List.getElem_cons_zero, List.getElem_cons_succ, List.setIfInBounds_toArray, List.set_cons_zero, List.set_cons_succ])
            refine wpAnyH_take (i := 34) (v := ?_) rfl (by kernel_rfl) (by kernel_rfl) (by kernel_rfl) (fun _ _ _ h => h) (Or.inl ⟨by rfl, ?_⟩) (by assumption) ?_
            rotate_left
            · intro w hSw; (try dsimp only at hSw); go_simp; (try with_reducible rfl)
            (try simp only [Act.put, List.getElem_toArray, List.getElem_cons_zero, List.getElem_cons_succ, List.setIfInBounds_toArray, List.set_cons_zero, List.set_cons_succ])
            refine wpAnyH_take (i := 35) (v := ?_) rfl (by kernel_rfl) (by kernel_rfl) (by kernel_rfl) (fun _ _ _ h => h) (Or.inl ⟨by rfl, ?_⟩) (by assumption) ?_
            rotate_left
            · intro w hSw; (try dsimp only at hSw); go_simp; (try with_reducible rfl)
            (try simp only [Act.put, List.getElem_toArray, List.getElem_cons_zero, List.getElem_cons_succ, List.setIfInBounds_toArray, List.set_cons_zero, List.set_cons_succ])
            refine wpAnyH_take (i := 36) (v := ?_) rfl (by kernel_rfl) (by kernel_rfl) (by kernel_rfl) (fun _ _ _ h => h) (Or.inl ⟨by rfl, ?_⟩) (by assumption) ?_
            rotate_left
            · intro w hSw; (try dsimp only at hSw); go_simp; (try with_reducible rfl)
            (try simp only [Act.put, List.getElem_toArray, List.getElem_cons_zero, List.getElem_cons_succ, List.setIfInBounds_toArray, List.set_cons_zero, List.set_cons_succ])
            refine wpAnyH_take (i := 37) (v := ?_) rfl (by kernel_rfl) (by kernel_rfl) (by kernel_rfl) (fun _ _ _ h => h) (Or.inl ⟨by rfl, ?_⟩) (by assumption) ?_
            rotate_left
            · intro w hSw; (try dsimp only at hSw); go_simp; (try with_reducible rfl)
            (try simp only [Act.put, List.getElem_toArray, List.getElem_cons_zero, List.getElem_cons_succ, List.setIfInBounds_toArray, List.set_cons_zero, List.set_cons_succ])
            refine wpAnyH_take (i := 38) (v := ?_) rfl (by kernel_rfl) (by kernel_rfl) (by kernel_rfl) (fun _ _ _ h => h) (Or.inl ⟨by rfl, ?_⟩) (by assumption) ?_
            rotate_left
            · intro w hSw; (try dsimp only at hSw); go_simp; (try with_reducible rfl)
            (try simp only [Act.put, List.getElem_toArray, List.getElem_cons_zero, List.getElem_cons_succ, List.setIfInBounds_toArray, List.set_cons_zero, List.set_cons_succ])
            refine wpAnyH_take (i := 39) (v := ?_) rfl (by kernel_rfl) (by kernel_rfl) (by kernel_rfl) (fun _ _ _ h => h) (Or.inl ⟨by rfl, ?_⟩) (by assumption) ?_
            rotate_left
            · intro w hSw; (try dsimp only at hSw); go_simp; (try with_reducible rfl)
            (try simp only [Act.put, List.getElem_toArray, List.getElem_cons_zero, List.getElem_cons_succ, List.setIfInBounds_toArray, List.set_cons_zero, List.set_cons_succ])
            refine wpAnyH_take (i := 40) (v := ?_) rfl (by kernel_rfl) (by kernel_rfl) (by kernel_rfl) (fun _ _ _ h => h) (Or.inl ⟨by rfl, ?_⟩) (by assumption) ?_
            rotate_left
            · intro w hSw; (try dsimp only at hSw); go_simp; (try with_reducible rfl)
            (try simp only [Act.put, List.getElem_toArray, List.getElem_cons_zero, List.getElem_cons_succ, List.setIfInBounds_toArray, List.set_cons_zero, List.set_cons_succ])
            refine wpAnyH_take (i := 41) (v := ?_) rfl (by kernel_rfl) (by kernel_rfl) (by kernel_rfl) (fun _ _ _ h => h) (Or.inl ⟨by rfl, ?_⟩) (by assumption) ?_
            rotate_left
            · intro w hSw; (try dsimp only at hSw); go_simp; (try with_reducible rfl)
            (try simp only [Act.put, List.getElem_toArray, List.getElem_cons_zero, List.getElem_cons_succ, List.setIfInBounds_toArray, List.set_cons_zero, List.set_cons_succ])
            refine wpAnyH_take (i := 42) (v := ?_) rfl (by kernel_rfl) (by kernel_rfl) (by kernel_rfl) (fun _ _ _ h => h) (Or.inl ⟨by rfl, ?_⟩) (by assumption) ?_
            rotate_left
            · intro w hSw; (try dsimp only at hSw); go_simp; (try with_reducible rfl)
            (try simp only [Act.put, List.getElem_toArray, List.getElem_cons_zero, List.getElem_cons_succ, List.setIfInBounds_toArray, List.set_cons_zero, List.set_cons_succ])
            refine wpAnyH_take (i := 43) (v := ?_) rfl (by kernel_rfl) (by kernel_rfl) (by kernel_rfl) (fun _ _ _ h => h) (Or.inl ⟨by rfl, ?_⟩) (by assumption) ?_
            rotate_left
            · intro w hSw; (try dsimp only at hSw); go_simp; (try with_reducible rfl)
            (try simp only [Act.put, List.getElem_toArray, List.getElem_cons_zero, List.getElem_cons_succ, List.setIfInBounds_toArray, List.set_cons_zero, List.set_cons_succ])
            refine wpAnyH_take (i := 44) (v := ?_) rfl (by kernel_rfl) (by kernel_rfl) (by kernel_rfl) (fun _ _ _ h => h) (Or.inl ⟨by rfl, ?_⟩) (by assumption) ?_
            rotate_left
            · intro w hSw; (try dsimp only at hSw); go_simp; (try with_reducible rfl)
            (try simp only [Act.put, List.getElem_toArray, List.getElem_cons_zero, List.getElem_cons_succ, List.setIfInBounds_toArray, List.set_cons_zero, List.set_cons_succ])
            refine wpAnyH_take (i := 45) (v := ?_) rfl (by kernel_rfl) (by kernel_rfl) (by kernel_rfl) (fun _ _ _ h => h) (Or.inl ⟨by rfl, ?_⟩) (by assumption) ?_
            rotate_left
            · intro w hSw; (try dsimp only at hSw); go_simp; (try with_reducible rfl)
            (try simp only [Act.put, List.getElem_toArray, List.getElem_cons_zero, List.getElem_cons_succ, List.setIfInBounds_toArray, List.set_cons_zero, List.set_cons_succ])
            refine wpAnyH_done (by kernel_rfl) ?_ _
            refine NoPanic.normal ?_
            go_wp2
            go_roundw
            case rel => exact ⟨l + 1, q2 + 1, by omega, by go_num, rfl⟩
            case measure => simp [intOf]; omega
          · go_wp2
            go_roundw
            case rel => exact ⟨k + 1, q2, by omega, by go_num, rfl⟩
            case measure => simp [intOf]; omega
      · skip
        clear HC2
        replace OX := OX.all (low_drewN _ q)
        replace R := R.all (low_drewN _ q) HB.size
        replace HB := HB.trans ((low_drewN _ q).mono HB.size)
        generalize w5.drewN q = w6 at *
        clear OX
        go_wp2_with fail
        refine (drawTightenLoom_any A n c w.heap.size _ R HB.size hn).mono ?_
        rintro e w7 ⟨A5, c5, us, i0, i1, rfl, hul, hi0, hi1, own, hb⟩
        replace R := R.all hb HB.size
        have OU := own.mono HB.size
        clear own
        replace HB := HB.trans (hb.mono HB.size)
        clear hb
        obtain ⟨ts, hts⟩ : ∃ z, (tight5 us i0 i1).1 = z := ⟨_, rfl⟩
        obtain ⟨tb, htb⟩ : ∃ z, (tight5 us i0 i1).2 = z := ⟨_, rfl⟩
        have hTi : Hid (∀ (w : World) (A : Option Addr) (c : Nat), RdF loomF w w.heap.size A us.length c us → Calls Try.prog 27 #[.slice A us.length c, .int .i64 i0, .int .i64 i1] w (OutF loomF w ts tb)) := Lib.hid fun w A c h => (by have := implTightenLoom_any A _ c _ us i0 i1 w h (Nat.le_refl _) hi1; rw [hts, htb] at this; exact this)
        have hTs : Hid (∀ (w : World) (A : Option Addr) (c : Nat), RdF loomF w w.heap.size A us.length c us → Calls Try.prog 28 #[.slice A us.length c, .int .i64 i0, .int .i64 i1] w (OutF loomF w ts tb)) := Lib.hid fun w A c h => (by have := specTightenLoom_any A _ c _ us i0 i1 w h (Nat.le_refl _) hi1; rw [hts, htb] at this; exact this)
        have HTL : Hid (∀ (i : Nat) (b : LoomR), ts[i]? = some b → ∃ a, us[i]? = some a ∧ ¬ b.f3 < a.f3) := Lib.hid fun i b hb => tight_le (by rw [hts]; exact hb)
        clear hts htb hi0
        go_wp2_with fail
        refine (hTi.out _ _ _ OU.rd).mono ?_
        rintro e w8 ⟨A6, c6, rfl, own, hb⟩
        replace OU := OU.all hb
        replace R := R.all hb HB.size
        have OT := own.mono HB.size
        clear own
        replace HB := HB.trans (hb.mono HB.size)
        clear hb
        go_wp2_with fail
        refine (hTs.out _ _ _ OU.rd).mono ?_
        rintro e w9 ⟨A7, c7, rfl, own, hb⟩
        replace OU := OU.all hb
        replace OT := OT.all hb
        replace R := R.all hb HB.size
        have OS := own.mono HB.size
        clear own
        replace HB := HB.trans (hb.mono HB.size)
        clear hb
        clear hTi hTs
        go_wp2_with fail
        refine (rLooms_same _ _ _ _ _ _ _ _ ts _ OT.rd OS.rd).mono ?_
        rintro e w10 ⟨rfl, hb⟩
        replace OU := OU.all hb
        replace OT := OT.all hb
        replace OS := OS.all hb
        replace R := R.all hb HB.size
        replace HB := HB.trans (hb.mono HB.size)
        clear hb
        clear OS
        go_wp2
        go_loopw [22] (fun ii wr => ∃ k q : Nat, k ≤ ts.length ∧ ii = .int .i64 k ∧ wr = w10.drewN q) (fun ii _ => ts.length - (intOf ii).toNat)
        case atStart => exact ⟨0, 0, Nat.zero_le _, rfl, rfl⟩
        case round =>
          obtain ⟨k, q, hk, rfl, rfl⟩ := hrel
          by_cases hlt : k < ts.length
          · obtain ⟨_, _, b, eb, _, _, HX, _, _, _, gb3, _⟩ := LoomR_at (F := loomF) rfl (fun _ => rfl) (fun _ => rfl) OT.rd hlt
            obtain ⟨a, ha, hle⟩ := HTL.out k b HX.out
            obtain ⟨_, _, a', ea, _, _, HA, _, _, _, ga3, _⟩ := LoomR_at (F := loomF) rfl (fun _ => rfl) (fun _ => rfl) OU.rd (List.getElem?_eq_some_iff.1 ha).1
            obtain rfl : a' = a := Option.some.inj (HA.out.symm.trans ha)
            have hku := (List.getElem?_eq_some_iff.1 ha).1
            have hk1 : (k : Int) < (us.length : Int) := by omega
            have hk0 : (0 : Int) ≤ (k : Int) := by omega
            have hk2 : (k : Int) < (ts.length : Int) := by omega
            subst ea
            subst eb
            go_wp2
            go_quiet (fail)
            go_wp2
            go_roundw
            case rel => exact ⟨k + 1, _, by omega, by go_num, rfl⟩
            case measure => simp [intOf]; omega
          · clear HTL
            replace OU := OU.all (low_drewN _ q)
            replace OT := OT.all (low_drewN _ q)
            replace R := R.all (low_drewN _ q) HB.size
            replace HB := HB.trans ((low_drewN _ q).mono HB.size)
            generalize w10.drewN q = w11 at *
            clear OU OT
            go_wp2_with fail
            refine (drawWarpLoom_any A n c w.heap.size _ R HB.size hn).mono ?_
            rintro e w12 ⟨A8, c8, vs, j0, j1, j2, rfl, hvl, hj0, hj1, hj2, own, hb⟩
            replace R := R.all hb HB.size
            have OV := own.mono HB.size
            clear own
            replace HB := HB.trans (hb.mono HB.size)
            clear hb
            obtain ⟨zs, hzs⟩ : ∃ z, (warp5 vs j0 j1 j2).1 = z := ⟨_, rfl⟩
            obtain ⟨zb, hzb⟩ : ∃ z, (warp5 vs j0 j1 j2).2 = z := ⟨_, rfl⟩
            have hWi : Hid (∀ (w : World) (A : Option Addr) (c : Nat), RdF loomF w w.heap.size A vs.length c vs → Calls Try.prog 15 #[.slice A vs.length c, .int .i64 j0, .int .i64 j1, .int .i64 j2] w (OutF loomF w zs zb)) := Lib.hid fun w A c h => (by have := implWarpLoom_any A _ c _ vs j0 j1 j2 w h (Nat.le_refl _) hj1 hj2; rw [hzs, hzb] at this; exact this)
            have hWs : Hid (∀ (w : World) (A : Option Addr) (c : Nat), RdF loomF w w.heap.size A vs.length c vs → Calls Try.prog 30 #[.slice A vs.length c, .int .i64 j0, .int .i64 j1, .int .i64 j2] w (OutF loomF w zs zb)) := Lib.hid fun w A c h => (by have := specWarpLoom_any A _ c _ vs j0 j1 j2 w h (Nat.le_refl _) hj1 hj2; rw [hzs, hzb] at this; exact this)
            clear hzs hzb hj0
            go_wp2_with fail
            refine (hWi.out _ _ _ OV.rd).mono ?_
            rintro e w13 ⟨A9, c9, rfl, own, hb⟩
            replace OV := OV.all hb
            replace R := R.all hb HB.size
            have OT := own.mono HB.size
            clear own
            replace HB := HB.trans (hb.mono HB.size)
            clear hb
            go_wp2_with fail
            refine (hWs.out _ _ _ OV.rd).mono ?_
            rintro e w14 ⟨A10, c10, rfl, own, hb⟩
            replace OV := OV.all hb
            replace OT := OT.all hb
            replace R := R.all hb HB.size
            have OS := own.mono HB.size
            clear own
            replace HB := HB.trans (hb.mono HB.size)
            clear hb
            clear OV
            clear hWi hWs
            go_wp2_with fail
            refine (rLooms_same _ _ _ _ _ _ _ _ zs _ OT.rd OS.rd).mono ?_
            rintro e w15 ⟨rfl, hb⟩
            replace OT := OT.all hb
            replace OS := OS.all hb
            replace R := R.all hb HB.size
            replace HB := HB.trans (hb.mono HB.size)
            clear hb
            clear OT OS
            go_wp2_with fail
            refine (drawIsLoom_any A n c w.heap.size _ R HB.size hn).mono ?_
            rintro e w16 ⟨s, rfl, hs, hb⟩
            replace R := R.all hb HB.size
            replace HB := HB.trans (hb.mono HB.size)
            clear hb
            replace R := R.alloc HB.size (.cells #[.int .i64 s.f0, .int .i64 s.f1, .int .i64 s.f2, .int .i64 s.f3, .int .i64 s.f4] 37)
            have bS := Blk.new w16 #[.int .i64 s.f0, .int .i64 s.f1, .int .i64 s.f2, .int .i64 s.f3, .int .i64 s.f4] 37
            replace HB := HB.alloc HB.size (.cells #[.int .i64 s.f0, .int .i64 s.f1, .int .i64 s.f2, .int .i64 s.f3, .int .i64 s.f4] 37)
            obtain ⟨lb, hlb⟩ : ∃ z, loomB s = z := ⟨_, rfl⟩
            have HLB := Lib.hid hlb
            clear hlb hs
            have ebS0 := bS.cell 0
            have ebS1 := bS.cell 1
            have ebS2 := bS.cell 2
            have ebS3 := bS.cell 3
            have ebS4 := bS.cell 4
            have zbS := bS.lt
            have hPz := bS.lt
            go_wp2
            refine wp_region_noPanic ?_
            refine wp_region_held_drew (S := (fun w' => w'.cell? ⟨w16.heap.size, 0, none⟩ = some (.int .i64 s.f0) ∧ w'.cell? ⟨w16.heap.size, 1, none⟩ = some (.int .i64 s.f1) ∧ w'.cell? ⟨w16.heap.size, 2, none⟩ = some (.int .i64 s.f2) ∧ w'.cell? ⟨w16.heap.size, 3, none⟩ = some (.int .i64 s.f3) ∧ w'.cell? ⟨w16.heap.size, 4, none⟩ = some (.int .i64 s.f4))) (by kernel_rfl) (by exact ⟨bS.cell 0, bS.cell 1, bS.cell 2, bS.cell 3, bS.cell 4⟩) (fun hHeld => ?_)
            refine wpAnyH_take (i := 0) (v := ?_) rfl (by kernel_rfl) (by kernel_rfl) (by kernel_rfl) (fun _ _ _ h => h) (Or.inl ⟨by rfl, ?_⟩) (by assumption) ?_
            rotate_left
            · intro w hSw; (try dsimp only at hSw); go_simp; (try with_reducible rfl)
            (try simp only [Act.put, List.getElem_toArray, List.getElem_cons_zero, List.setIfInBounds_toArray, List.set_cons_zero, List.set_cons_succ])
            refine wpAnyH_take (i := 2) (v := ?_) rfl (by kernel_rfl) (by kernel_rfl) (by kernel_rfl) (fun _ _ _ h => h) (Or.inl ⟨by rfl, ?_⟩) (by assumption) ?_
            rotate_left
            · intro w hSw; (try dsimp only at hSw); go_simp; (try with_reducible rfl)
            (try simp only [Act.put, List.getElem_toArray, List.getElem_cons_zero, List.getElem_cons_succ, List.setIfInBounds_toArray, List.set_cons_zero, List.set_cons_succ])
            refine wpAnyH_ready (rs := [1]) (by kernel_rfl) (by simp) ?_
            refine AllReadyH.cons rfl (fun K hK => ?_) AllReadyH.nil
            go_simp
            (first | ((with_reducible refine (implIsLoom_eq s _ lb HLB.out).mono ?_); rintro e w5 ⟨rfl, hb5⟩; (try replace hb5 := below_drew' hb5); replace bS := bS.all hb5; replace HB := HB.trans (hb5.mono HB.size); clear hb5; go_simp) | ((with_reducible refine (l5IsLoom_eq s _ lb HLB.out).mono ?_); rintro e w5 ⟨rfl, hb5⟩; (try replace hb5 := below_drew' hb5); replace bS := bS.all hb5; replace HB := HB.trans (hb5.mono HB.size); clear hb5; go_simp))
            refine hK.out _ _ (by exact ⟨bS.cell 0, bS.cell 1, bS.cell 2, bS.cell 3, bS.cell 4⟩) (fun hHeld => ?_)
            clear hK K
            (try simp only [Act.put, List.getElem_toArray, List.getElem_cons_zero, List.getElem_cons_succ, List.setIfInBounds_toArray, List.set_cons_zero, List.set_cons_succ])
            refine wpAnyH_ready (rs := [3]) (by kernel_rfl) (by simp) ?_
            refine AllReadyH.cons rfl (fun K hK => ?_) AllReadyH.nil
            go_simp
            (first | ((with_reducible refine (implIsLoom_eq s _ lb HLB.out).mono ?_); rintro e w5 ⟨rfl, hb5⟩; (try replace hb5 := below_drew' hb5); replace bS := bS.all hb5; replace HB := HB.trans (hb5.mono HB.size); clear hb5; go_simp) | ((with_reducible refine (l5IsLoom_eq s _ lb HLB.out).mono ?_); rintro e w5 ⟨rfl, hb5⟩; (try replace hb5 := below_drew' hb5); replace bS := bS.all hb5; replace HB := HB.trans (hb5.mono HB.size); clear hb5; go_simp))
            refine hK.out _ _ (by exact ⟨bS.cell 0, bS.cell 1, bS.cell 2, bS.cell 3, bS.cell 4⟩) (fun hHeld => ?_)
            clear hK K
            (try simp only [Act.put, List.getElem_toArray, List.getElem_cons_zero, List.getElem_cons_succ, List.setIfInBounds_toArray, List.set_cons_zero, List.set_cons_succ])
            refine wpAnyH_take (i := 4) (v := ?_) rfl (by kernel_rfl) (by kernel_rfl) (by kernel_rfl) (fun _ _ _ h => h) (Or.inl ⟨by rfl, ?_⟩) (by assumption) ?_
            rotate_left
            · intro w hSw; (try dsimp only at hSw); go_simp; (try with_reducible rfl)
            (try simp only [Act.put, List.getElem_toArray, List.getElem_cons_zero, List.getElem_cons_succ, List.setIfInBounds_toArray, List.set_cons_zero, List.set_cons_succ])
            refine wpAnyH_take (i := 5) (v := ?_) rfl (by kernel_rfl) (by kernel_rfl) (by kernel_rfl) (fun _ _ _ h => h) (Or.inl ⟨by rfl, ?_⟩) (by assumption) ?_
            rotate_left
            · intro w hSw; (try dsimp only at hSw); go_simp; (try with_reducible rfl)
            (try simp only [Act.put, List.getElem_toArray, List.getElem_cons_zero, List.getElem_cons_succ, List.setIfInBounds_toArray, List.set_cons_zero, List.set_cons_succ])
            refine wpAnyH_done (by kernel_rfl) ?_ _
            refine NoPanic.normal ?_
            go_wp2
            go_ret
            exact ⟨ret_bool (by simp), HB⟩
end Go.Proofs.Ytoeognlfalbfkaa
