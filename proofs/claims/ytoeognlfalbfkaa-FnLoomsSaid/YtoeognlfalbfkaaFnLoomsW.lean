/- The walk of the law FnLooms. No condition. -/
import Derived.Test.YtoeognlfalbfkaaDraws5c
import Derived.Test.YtoeognlfalbfkaaFnMath5
namespace Go.Proofs.Ytoeognlfalbfkaa
open Go.RowKit

theorem cut_fits {xs : List LoomR} {id : Int} (h : ∀ x ∈ xs, loomF.ok x) : I64 (cut5 xs id).2.1 := by
  unfold cut5
  cases hl : look xs id [1, 2, 3] with
  | none => exact (show I64 0 from ⟨by decide, by decide⟩)
  | some p =>
    obtain ⟨k, a⟩ := p
    exact (h a (List.mem_of_getElem? (look_of hl).2.1)).2.2.1
set_option maxRecDepth 100000 in
set_option maxHeartbeats 16000000 in
theorem fnLooms_walk (w : World) (A : Option Addr) (n c : Nat) (R : RdB w w.heap.size A n c) : Calls Try.prog 3 #[.slice A n c] w fun e w' => e = .returned (.bool true) ∧ Below w.heap.size w w' := by
  have hcap := R.cap
  have hmax := R.max
  unfold maxLen at hmax
  have HB := Below.refl w.heap.size w
  by_cases hn : n ≤ 65536
  rotate_left
  · go_enter Try.func3, Try.ntmps3
    go_wp2_with fail
    refine (rBig_eq A n c _ (by omega) true (by simp; omega)).mono ?_
    rintro e w' ⟨rfl, rfl⟩
    go_wp2
    go_ret
    exact ⟨rfl, HB⟩
  go_enter Try.func3, Try.ntmps3
  go_wp2_with fail
  refine (rBig_eq A n c _ (by omega) false (by simp; omega)).mono ?_
  rintro e w' ⟨rfl, rfl⟩
  go_wp2_with fail
  refine (drawWeaveDays_any A n c w.heap.size _ R HB.size hn).mono ?_
  rintro e w1 ⟨A2, c2, xs, iv, dv, rfl, hxl, hiv, hdv, own, hb⟩
  replace R := R.all hb HB.size
  have OX := own.mono HB.size
  clear own
  replace HB := HB.trans (hb.mono HB.size)
  clear hb
  obtain ⟨ys, hys⟩ : ∃ z, (weave5 xs iv dv).1 = z := ⟨_, rfl⟩
  obtain ⟨nv, hnv⟩ : ∃ z, (weave5 xs iv dv).2.1 = z := ⟨_, rfl⟩
  obtain ⟨ok, hok⟩ : ∃ z, (weave5 xs iv dv).2.2 = z := ⟨_, rfl⟩
  obtain ⟨lv, hlv⟩ : ∃ z, (left5 xs iv).1 = z := ⟨_, rfl⟩
  obtain ⟨lb, hlb⟩ : ∃ z, (left5 xs iv).2 = z := ⟨_, rfl⟩
  obtain ⟨gl, hgl⟩ : ∃ z, loomsB (weave5 xs iv dv).1 = z := ⟨_, rfl⟩
  rw [hys] at hgl
  have hWi : Hid (∀ (w : World) (A : Option Addr) (c : Nat), RdF loomF w w.heap.size A xs.length c xs → Calls Try.prog 7 #[.slice A xs.length c, .int .i64 iv, .int .i64 dv] w (OutFib loomF w ys nv ok)) := Lib.hid fun w A c h => (by have := implWeaveDays_any A _ c _ xs iv dv w h (Nat.le_refl _); rw [hys, hnv, hok] at this; exact this)
  have hWs : Hid (∀ (w : World) (A : Option Addr) (c : Nat), RdF loomF w w.heap.size A xs.length c xs → Calls Try.prog 8 #[.slice A xs.length c, .int .i64 iv, .int .i64 dv] w (OutFib loomF w ys nv ok)) := Lib.hid fun w A c h => (by have := specWeaveDays_any A _ c _ xs iv dv w h (Nat.le_refl _); rw [hys, hnv, hok] at this; exact this)
  have hLi : Hid (∀ (w : World) (A : Option Addr) (c : Nat), RdF loomF w w.heap.size A xs.length c xs → Calls Try.prog 10 #[.slice A xs.length c, .int .i64 iv] w (Out w (.tuple #[.int .i64 lv, .bool lb]))) := Lib.hid fun w A c h => (by have := implDaysLeft_any A _ c _ xs iv w h (Nat.le_refl _); rw [hlv, hlb] at this; exact this)
  have hAL : Hid (∀ (w : World) (A : Option Addr) (c : Nat), RdF loomF w w.heap.size A ys.length c ys → Calls Try.prog 11 #[.slice A ys.length c] w (Tells w gl)) := Lib.hid fun w A c h => (by have := implAreLooms_any A _ c _ ys w h (Nat.le_refl _); rw [hgl] at this; exact this)
  have HWT : Hid (ok = true → lb = true ∧ nv ≤ lv ∧ nv ≤ dv ∧ (nv < dv → nv = lv) ∧ gl = true) := Lib.hid fun ho => by
    have h1 := weave_true (hok.trans ho)
    rw [hys, hnv, hlv, hlb, hgl] at h1
    exact h1
  clear hys hnv hok hlv hlb hgl hiv hdv
  go_wp2_with fail
  refine (hWi.out _ _ _ OX.rd).mono ?_
  rintro e w2 ⟨A3, c3, rfl, own, hb⟩
  replace OX := OX.all hb
  replace R := R.all hb HB.size
  have OY := own.mono HB.size
  clear own
  replace HB := HB.trans (hb.mono HB.size)
  clear hb
  go_wp2_with fail
  refine (hWs.out _ _ _ OX.rd).mono ?_
  rintro e w3 ⟨A4, c4, rfl, own, hb⟩
  replace OX := OX.all hb
  replace OY := OY.all hb
  replace R := R.all hb HB.size
  have OZ := own.mono HB.size
  clear own
  replace HB := HB.trans (hb.mono HB.size)
  clear hb
  clear hWi hWs
  cases ok
  case false =>
    clear HWT hLi hAL
    go_wp2_with fail
    refine (rLooms_same _ _ _ _ _ _ _ _ ys _ OY.rd OZ.rd).mono ?_
    rintro e w4 ⟨rfl, hb⟩
    replace OX := OX.all hb
    replace OY := OY.all hb
    replace OZ := OZ.all hb
    replace R := R.all hb HB.size
    replace HB := HB.trans (hb.mono HB.size)
    clear hb
    clear OX OY OZ
    go_wp2_with fail
    refine (drawCutOff_any A n c w.heap.size _ R HB.size hn).mono ?_
    rintro e w5 ⟨A5, c5, us, wv, rfl, hul, hwv, own, hb⟩
    replace R := R.all hb HB.size
    have OU := own.mono HB.size
    clear own
    replace HB := HB.trans (hb.mono HB.size)
    clear hb
    obtain ⟨es, hes⟩ : ∃ z, (cut5 us wv).1 = z := ⟨_, rfl⟩
    obtain ⟨pv, hpv⟩ : ∃ z, (cut5 us wv).2.1 = z := ⟨_, rfl⟩
    obtain ⟨fb, hfb⟩ : ∃ z, (cut5 us wv).2.2 = z := ⟨_, rfl⟩
    have hCi : Hid (∀ (w : World) (A : Option Addr) (c : Nat), RdF loomF w w.heap.size A us.length c us → Calls Try.prog 13 #[.slice A us.length c, .int .i64 wv] w (OutFib loomF w es pv fb)) := Lib.hid fun w A c h => (by have := implCutOff_any A _ c _ us wv w h (Nat.le_refl _); rw [hes, hpv, hfb] at this; exact this)
    have hCs : Hid (∀ (w : World) (A : Option Addr) (c : Nat), RdF loomF w w.heap.size A us.length c us → Calls Try.prog 14 #[.slice A us.length c, .int .i64 wv] w (OutFib loomF w es pv fb)) := Lib.hid fun w A c h => (by have := specCutOff_any A _ c _ us wv w h (Nat.le_refl _); rw [hes, hpv, hfb] at this; exact this)
    have hpI : I64 pv := by rw [← hpv]; exact cut_fits OU.2
    have HCB : Hid (fb = true → ∀ (i : Nat) (a : LoomR), us[i]? = some a → a.f0 = wv → a.f4 = 1 → warp5 es wv pv a.f3 = (us, true)) := Lib.hid fun ho i a ha hi hs => by
      have h1 := cut_back (hfb.trans ho) ha hi hs
      rw [hes, hpv] at h1
      exact h1
    clear hes hpv hfb hwv
    go_wp2_with fail
    refine (hCi.out _ _ _ OU.rd).mono ?_
    rintro e w6 ⟨A6, c6, rfl, own, hb⟩
    replace OU := OU.all hb
    replace R := R.all hb HB.size
    have OE := own.mono HB.size
    clear own
    replace HB := HB.trans (hb.mono HB.size)
    clear hb
    go_wp2_with fail
    refine (hCs.out _ _ _ OU.rd).mono ?_
    rintro e w7 ⟨A7, c7, rfl, own, hb⟩
    replace OU := OU.all hb
    replace OE := OE.all hb
    replace R := R.all hb HB.size
    have OS := own.mono HB.size
    clear own
    replace HB := HB.trans (hb.mono HB.size)
    clear hb
    clear hCi hCs
    go_wp2_with fail
    refine (rLooms_same _ _ _ _ _ _ _ _ es _ OE.rd OS.rd).mono ?_
    rintro e w8 ⟨rfl, hb⟩
    replace OU := OU.all hb
    replace OE := OE.all hb
    replace OS := OS.all hb
    replace R := R.all hb HB.size
    replace HB := HB.trans (hb.mono HB.size)
    clear hb
    clear OS
    cases fb
    case false =>
      clear HCB hpI
      go_wp2
      go_loopw [22] (fun ii wr => ∃ q : Nat, ii = .int .i64 0 ∧ wr = w8.drewN q) (fun _ _ => 0)
      case atStart => exact ⟨0, rfl, rfl⟩
      case round =>
        obtain ⟨q, rfl, rfl⟩ := hrel
        replace OU := OU.all (low_drewN _ q)
        replace OE := OE.all (low_drewN _ q)
        replace R := R.all (low_drewN _ q) HB.size
        replace HB := HB.trans ((low_drewN _ q).mono HB.size)
        generalize w8.drewN q = w9 at *
        clear OU OE
        by_cases hus : (0 : Int) < (us.length : Int)
        · skip
          go_wp2_with fail
          refine (drawBeginCarpet_any A n c w.heap.size _ R HB.size hn).mono ?_
          rintro e w10 ⟨A8, c8, vs, xv, rfl, hvl, hxv, own, hb⟩
          replace R := R.all hb HB.size
          have OV := own.mono HB.size
          clear own
          replace HB := HB.trans (hb.mono HB.size)
          clear hb
          obtain ⟨bs, hbs⟩ : ∃ z, (begin5 vs xv).1 = z := ⟨_, rfl⟩
          obtain ⟨bb, hbb⟩ : ∃ z, (begin5 vs xv).2 = z := ⟨_, rfl⟩
          have hBi : Hid (∀ (w : World) (A : Option Addr) (c : Nat), RdF loomF w w.heap.size A vs.length c vs → Calls Try.prog 17 #[.slice A vs.length c, .int .i64 xv] w (OutF loomF w bs bb)) := Lib.hid fun w A c h => (by have := implBeginCarpet_any A _ c _ vs xv w h (Nat.le_refl _); rw [hbs, hbb] at this; exact this)
          have hBs : Hid (∀ (w : World) (A : Option Addr) (c : Nat), RdF loomF w w.heap.size A vs.length c vs → Calls Try.prog 18 #[.slice A vs.length c, .int .i64 xv] w (OutF loomF w bs bb)) := Lib.hid fun w A c h => (by have := specBeginCarpet_any A _ c _ vs xv w h (Nat.le_refl _); rw [hbs, hbb] at this; exact this)
          clear hbs hbb hxv
          go_wp2_with fail
          refine (hBi.out _ _ _ OV.rd).mono ?_
          rintro e w11 ⟨A9, c9, rfl, own, hb⟩
          replace OV := OV.all hb
          replace R := R.all hb HB.size
          have OT := own.mono HB.size
          clear own
          replace HB := HB.trans (hb.mono HB.size)
          clear hb
          go_wp2_with fail
          refine (hBs.out _ _ _ OV.rd).mono ?_
          rintro e w12 ⟨A10, c10, rfl, own, hb⟩
          replace OV := OV.all hb
          replace OT := OT.all hb
          replace R := R.all hb HB.size
          have OS := own.mono HB.size
          clear own
          replace HB := HB.trans (hb.mono HB.size)
          clear hb
          clear hBi hBs
          go_wp2_with fail
          refine (rLooms_same _ _ _ _ _ _ _ _ bs _ OT.rd OS.rd).mono ?_
          rintro e w13 ⟨rfl, hb⟩
          replace OV := OV.all hb
          replace OT := OT.all hb
          replace OS := OS.all hb
          replace R := R.all hb HB.size
          replace HB := HB.trans (hb.mono HB.size)
          clear hb
          clear OV OT OS
          go_wp2_with fail
          refine (drawDaysLeft_any A n c w.heap.size _ R HB.size hn).mono ?_
          rintro e w14 ⟨A11, c11, ds, yv, rfl, hdl, hyv, own, hb⟩
          replace R := R.all hb HB.size
          have OD := own.mono HB.size
          clear own
          replace HB := HB.trans (hb.mono HB.size)
          clear hb
          obtain ⟨l2, hl2⟩ : ∃ z, (left5 ds yv).1 = z := ⟨_, rfl⟩
          obtain ⟨b2, hb2⟩ : ∃ z, (left5 ds yv).2 = z := ⟨_, rfl⟩
          have hDi : Hid (∀ (w : World) (A : Option Addr) (c : Nat), RdF loomF w w.heap.size A ds.length c ds → Calls Try.prog 10 #[.slice A ds.length c, .int .i64 yv] w (Out w (.tuple #[.int .i64 l2, .bool b2]))) := Lib.hid fun w A c h => (by have := implDaysLeft_any A _ c _ ds yv w h (Nat.le_refl _); rw [hl2, hb2] at this; exact this)
          have hDs : Hid (∀ (w : World) (A : Option Addr) (c : Nat), RdF loomF w w.heap.size A ds.length c ds → Calls Try.prog 20 #[.slice A ds.length c, .int .i64 yv] w (Out w (.tuple #[.int .i64 l2, .bool b2]))) := Lib.hid fun w A c h => (by have := specDaysLeft_any A _ c _ ds yv w h (Nat.le_refl _); rw [hl2, hb2] at this; exact this)
          have hpos : 0 ≤ l2 := by rw [← hl2]; exact left_pos ds yv
          clear hl2 hb2 hyv
          go_wp2_with fail
          refine (hDi.out _ _ _ OD.rd).mono ?_
          rintro e w15 ⟨rfl, hb⟩
          replace OD := OD.all hb
          replace R := R.all hb HB.size
          replace HB := HB.trans (hb.mono HB.size)
          clear hb
          go_wp2_with fail
          refine (hDs.out _ _ _ OD.rd).mono ?_
          rintro e w16 ⟨rfl, hb⟩
          replace OD := OD.all hb
          replace R := R.all hb HB.size
          replace HB := HB.trans (hb.mono HB.size)
          clear hb
          clear hDi hDs
          go_wp2
          go_ret
          exact ⟨ret_bool (by first | (simp; done) | simp [hpos] | rfl), HB⟩
        · skip
          go_wp2_with fail
          refine (drawBeginCarpet_any A n c w.heap.size _ R HB.size hn).mono ?_
          rintro e w10 ⟨A8, c8, vs, xv, rfl, hvl, hxv, own, hb⟩
          replace R := R.all hb HB.size
          have OV := own.mono HB.size
          clear own
          replace HB := HB.trans (hb.mono HB.size)
          clear hb
          obtain ⟨bs, hbs⟩ : ∃ z, (begin5 vs xv).1 = z := ⟨_, rfl⟩
          obtain ⟨bb, hbb⟩ : ∃ z, (begin5 vs xv).2 = z := ⟨_, rfl⟩
          have hBi : Hid (∀ (w : World) (A : Option Addr) (c : Nat), RdF loomF w w.heap.size A vs.length c vs → Calls Try.prog 17 #[.slice A vs.length c, .int .i64 xv] w (OutF loomF w bs bb)) := Lib.hid fun w A c h => (by have := implBeginCarpet_any A _ c _ vs xv w h (Nat.le_refl _); rw [hbs, hbb] at this; exact this)
          have hBs : Hid (∀ (w : World) (A : Option Addr) (c : Nat), RdF loomF w w.heap.size A vs.length c vs → Calls Try.prog 18 #[.slice A vs.length c, .int .i64 xv] w (OutF loomF w bs bb)) := Lib.hid fun w A c h => (by have := specBeginCarpet_any A _ c _ vs xv w h (Nat.le_refl _); rw [hbs, hbb] at this; exact this)
          clear hbs hbb hxv
          go_wp2_with fail
          refine (hBi.out _ _ _ OV.rd).mono ?_
          rintro e w11 ⟨A9, c9, rfl, own, hb⟩
          replace OV := OV.all hb
          replace R := R.all hb HB.size
          have OT := own.mono HB.size
          clear own
          replace HB := HB.trans (hb.mono HB.size)
          clear hb
          go_wp2_with fail
          refine (hBs.out _ _ _ OV.rd).mono ?_
          rintro e w12 ⟨A10, c10, rfl, own, hb⟩
          replace OV := OV.all hb
          replace OT := OT.all hb
          replace R := R.all hb HB.size
          have OS := own.mono HB.size
          clear own
          replace HB := HB.trans (hb.mono HB.size)
          clear hb
          clear hBi hBs
          go_wp2_with fail
          refine (rLooms_same _ _ _ _ _ _ _ _ bs _ OT.rd OS.rd).mono ?_
          rintro e w13 ⟨rfl, hb⟩
          replace OV := OV.all hb
          replace OT := OT.all hb
          replace OS := OS.all hb
          replace R := R.all hb HB.size
          replace HB := HB.trans (hb.mono HB.size)
          clear hb
          clear OV OT OS
          go_wp2_with fail
          refine (drawDaysLeft_any A n c w.heap.size _ R HB.size hn).mono ?_
          rintro e w14 ⟨A11, c11, ds, yv, rfl, hdl, hyv, own, hb⟩
          replace R := R.all hb HB.size
          have OD := own.mono HB.size
          clear own
          replace HB := HB.trans (hb.mono HB.size)
          clear hb
          obtain ⟨l2, hl2⟩ : ∃ z, (left5 ds yv).1 = z := ⟨_, rfl⟩
          obtain ⟨b2, hb2⟩ : ∃ z, (left5 ds yv).2 = z := ⟨_, rfl⟩
          have hDi : Hid (∀ (w : World) (A : Option Addr) (c : Nat), RdF loomF w w.heap.size A ds.length c ds → Calls Try.prog 10 #[.slice A ds.length c, .int .i64 yv] w (Out w (.tuple #[.int .i64 l2, .bool b2]))) := Lib.hid fun w A c h => (by have := implDaysLeft_any A _ c _ ds yv w h (Nat.le_refl _); rw [hl2, hb2] at this; exact this)
          have hDs : Hid (∀ (w : World) (A : Option Addr) (c : Nat), RdF loomF w w.heap.size A ds.length c ds → Calls Try.prog 20 #[.slice A ds.length c, .int .i64 yv] w (Out w (.tuple #[.int .i64 l2, .bool b2]))) := Lib.hid fun w A c h => (by have := specDaysLeft_any A _ c _ ds yv w h (Nat.le_refl _); rw [hl2, hb2] at this; exact this)
          have hpos : 0 ≤ l2 := by rw [← hl2]; exact left_pos ds yv
          clear hl2 hb2 hyv
          go_wp2_with fail
          refine (hDi.out _ _ _ OD.rd).mono ?_
          rintro e w15 ⟨rfl, hb⟩
          replace OD := OD.all hb
          replace R := R.all hb HB.size
          replace HB := HB.trans (hb.mono HB.size)
          clear hb
          go_wp2_with fail
          refine (hDs.out _ _ _ OD.rd).mono ?_
          rintro e w16 ⟨rfl, hb⟩
          replace OD := OD.all hb
          replace R := R.all hb HB.size
          replace HB := HB.trans (hb.mono HB.size)
          clear hb
          clear hDi hDs
          go_wp2
          go_ret
          exact ⟨ret_bool (by first | (simp; done) | simp [hpos] | rfl), HB⟩
    case true =>
      have HC2 := Lib.hid (HCB.out rfl)
      clear HCB
      go_wp2
      go_loopw [22] (fun ii wr => ∃ k : Nat, k ≤ us.length ∧ ii = .int .i64 k ∧ OwnF loomF wr w.heap.size (.slice A5 us.length c5) us ∧ OwnF loomF wr w.heap.size (.slice A6 es.length c6) es ∧ RdB wr w.heap.size A n c ∧ Below w.heap.size w wr) (fun ii _ => us.length - (intOf ii).toNat)
      case atStart => exact ⟨0, Nat.zero_le _, rfl, OU, OE, R, HB⟩
      case round =>
        clear R HB OU OE
        obtain ⟨k, hk, rfl, OU, OE, R, HB⟩ := hrel
        by_cases hlt : k < us.length
        · obtain ⟨b_, off_, a, ea, hbB, ha, HX, ga0, _, _, ga3, ga4⟩ := LoomR_at (F := loomF) rfl (fun _ => rfl) (fun _ => rfl) OU.rd hlt
          have HAC := Lib.hid (HC2.out k a HX.out)
          obtain ⟨a0, a1, a2, a3, a4⟩ := a
          simp only at ga0 ga3 ga4 HAC
          have hk0 : (0 : Int) ≤ (k : Int) := by omega
          have hkn : (k : Int) < (us.length : Int) := by omega
          have hI3 : I64 a3 := ha.2.2.2.1
          subst ea
          by_cases h0 : a0 = wv
          rotate_left
          · have h0' : (a0 == wv) = false := by simpa using h0
            clear h0
            go_wp2
            go_roundw
            case rel => exact ⟨k + 1, by omega, by go_num, OU, OE, R, HB⟩
            case measure => simp [intOf]; omega
          by_cases h1 : a4 = 1
          rotate_left
          · have h1' : (a4 == 1) = false := by simpa using h1
            clear h1
            subst h0
            go_wp2
            go_roundw
            case rel => exact ⟨k + 1, by omega, by go_num, OU, OE, R, HB⟩
            case measure => simp [intOf]; omega
          have HW := Lib.hid (HAC.out h0 h1)
          subst h0
          subst h1
          go_wp2_with fail
          refine (show Calls Try.prog 15 #[.slice A6 es.length c6, .int .i64 a0, .int .i64 pv, .int .i64 a3] wr (OutF loomF wr us true) from (by have := implWarpLoom_any A6 _ c6 _ es a0 pv a3 wr OE.rd (Nat.le_refl _) hpI hI3; rw [HW.out] at this; exact this)).mono ?_
          rintro e w91 ⟨A12, c12, rfl, OB, hb⟩
          replace OU := OU.all hb
          replace OE := OE.all hb
          replace R := R.all hb HB.size
          replace HB := HB.trans (hb.mono HB.size)
          clear hb ga0 ga3 ga4
          go_wp2_with fail
          refine (rLooms_same _ _ _ _ _ _ _ _ us _ OB.rd OU.rd).mono ?_
          rintro e w92 ⟨rfl, hb⟩
          replace OU := OU.all hb
          replace OE := OE.all hb
          replace R := R.all hb HB.size
          replace HB := HB.trans (hb.mono HB.size)
          clear hb OB
          go_wp2
          go_roundw
          case rel => exact ⟨k + 1, by omega, by go_num, OU, OE, R, HB⟩
          case measure => simp [intOf]; omega
        · clear HC2 hpI
          clear OU OE
          go_wp2_with fail
          refine (drawBeginCarpet_any A n c w.heap.size _ R HB.size hn).mono ?_
          rintro e w9 ⟨A8, c8, vs, xv, rfl, hvl, hxv, own, hb⟩
          replace R := R.all hb HB.size
          have OV := own.mono HB.size
          clear own
          replace HB := HB.trans (hb.mono HB.size)
          clear hb
          obtain ⟨bs, hbs⟩ : ∃ z, (begin5 vs xv).1 = z := ⟨_, rfl⟩
          obtain ⟨bb, hbb⟩ : ∃ z, (begin5 vs xv).2 = z := ⟨_, rfl⟩
          have hBi : Hid (∀ (w : World) (A : Option Addr) (c : Nat), RdF loomF w w.heap.size A vs.length c vs → Calls Try.prog 17 #[.slice A vs.length c, .int .i64 xv] w (OutF loomF w bs bb)) := Lib.hid fun w A c h => (by have := implBeginCarpet_any A _ c _ vs xv w h (Nat.le_refl _); rw [hbs, hbb] at this; exact this)
          have hBs : Hid (∀ (w : World) (A : Option Addr) (c : Nat), RdF loomF w w.heap.size A vs.length c vs → Calls Try.prog 18 #[.slice A vs.length c, .int .i64 xv] w (OutF loomF w bs bb)) := Lib.hid fun w A c h => (by have := specBeginCarpet_any A _ c _ vs xv w h (Nat.le_refl _); rw [hbs, hbb] at this; exact this)
          clear hbs hbb hxv
          go_wp2_with fail
          refine (hBi.out _ _ _ OV.rd).mono ?_
          rintro e w10 ⟨A9, c9, rfl, own, hb⟩
          replace OV := OV.all hb
          replace R := R.all hb HB.size
          have OT := own.mono HB.size
          clear own
          replace HB := HB.trans (hb.mono HB.size)
          clear hb
          go_wp2_with fail
          refine (hBs.out _ _ _ OV.rd).mono ?_
          rintro e w11 ⟨A10, c10, rfl, own, hb⟩
          replace OV := OV.all hb
          replace OT := OT.all hb
          replace R := R.all hb HB.size
          have OS := own.mono HB.size
          clear own
          replace HB := HB.trans (hb.mono HB.size)
          clear hb
          clear hBi hBs
          go_wp2_with fail
          refine (rLooms_same _ _ _ _ _ _ _ _ bs _ OT.rd OS.rd).mono ?_
          rintro e w12 ⟨rfl, hb⟩
          replace OV := OV.all hb
          replace OT := OT.all hb
          replace OS := OS.all hb
          replace R := R.all hb HB.size
          replace HB := HB.trans (hb.mono HB.size)
          clear hb
          clear OV OT OS
          go_wp2_with fail
          refine (drawDaysLeft_any A n c w.heap.size _ R HB.size hn).mono ?_
          rintro e w13 ⟨A11, c11, ds, yv, rfl, hdl, hyv, own, hb⟩
          replace R := R.all hb HB.size
          have OD := own.mono HB.size
          clear own
          replace HB := HB.trans (hb.mono HB.size)
          clear hb
          obtain ⟨l2, hl2⟩ : ∃ z, (left5 ds yv).1 = z := ⟨_, rfl⟩
          obtain ⟨b2, hb2⟩ : ∃ z, (left5 ds yv).2 = z := ⟨_, rfl⟩
          have hDi : Hid (∀ (w : World) (A : Option Addr) (c : Nat), RdF loomF w w.heap.size A ds.length c ds → Calls Try.prog 10 #[.slice A ds.length c, .int .i64 yv] w (Out w (.tuple #[.int .i64 l2, .bool b2]))) := Lib.hid fun w A c h => (by have := implDaysLeft_any A _ c _ ds yv w h (Nat.le_refl _); rw [hl2, hb2] at this; exact this)
          have hDs : Hid (∀ (w : World) (A : Option Addr) (c : Nat), RdF loomF w w.heap.size A ds.length c ds → Calls Try.prog 20 #[.slice A ds.length c, .int .i64 yv] w (Out w (.tuple #[.int .i64 l2, .bool b2]))) := Lib.hid fun w A c h => (by have := specDaysLeft_any A _ c _ ds yv w h (Nat.le_refl _); rw [hl2, hb2] at this; exact this)
          have hpos : 0 ≤ l2 := by rw [← hl2]; exact left_pos ds yv
          clear hl2 hb2 hyv
          go_wp2_with fail
          refine (hDi.out _ _ _ OD.rd).mono ?_
          rintro e w14 ⟨rfl, hb⟩
          replace OD := OD.all hb
          replace R := R.all hb HB.size
          replace HB := HB.trans (hb.mono HB.size)
          clear hb
          go_wp2_with fail
          refine (hDs.out _ _ _ OD.rd).mono ?_
          rintro e w15 ⟨rfl, hb⟩
          replace OD := OD.all hb
          replace R := R.all hb HB.size
          replace HB := HB.trans (hb.mono HB.size)
          clear hb
          clear hDi hDs
          go_wp2
          go_ret
          exact ⟨ret_bool (by first | (simp; done) | simp [hpos] | rfl), HB⟩
  case true =>
    obtain ⟨rfl, w1_, w2_, w3_, rfl⟩ := HWT.out rfl
    have HW3 := Lib.hid w3_
    clear HWT w3_
    go_wp2_with fail
    refine (rLooms_same _ _ _ _ _ _ _ _ ys _ OY.rd OZ.rd).mono ?_
    rintro e w4 ⟨rfl, hb⟩
    replace OX := OX.all hb
    replace OY := OY.all hb
    replace OZ := OZ.all hb
    replace R := R.all hb HB.size
    replace HB := HB.trans (hb.mono HB.size)
    clear hb
    clear OZ
    go_wp2_with fail
    refine (hLi.out _ _ _ OX.rd).mono ?_
    rintro e w5 ⟨rfl, hb⟩
    replace OX := OX.all hb
    replace OY := OY.all hb
    replace R := R.all hb HB.size
    replace HB := HB.trans (hb.mono HB.size)
    clear hb
    have p1 : decide (lv < nv) = false := by rw [decide_eq_false_iff_not]; omega
    have p2 : decide (dv < nv) = false := by rw [decide_eq_false_iff_not]; omega
    clear hLi w1_ w2_
    by_cases h3 : nv < dv
    · have h4 := HW3.out h3
      subst h4
      clear HW3
      go_wp2_with fail
      refine (hAL.out _ _ _ OY.rd).mono ?_
      rintro e w6 ⟨rfl, hb⟩
      replace OX := OX.all hb
      replace OY := OY.all hb
      replace R := R.all hb HB.size
      replace HB := HB.trans (hb.mono HB.size)
      clear hb
      clear hAL p1 p2 h3
      clear OX OY
      go_wp2_with fail
      refine (drawCutOff_any A n c w.heap.size _ R HB.size hn).mono ?_
      rintro e w7 ⟨A5, c5, us, wv, rfl, hul, hwv, own, hb⟩
      replace R := R.all hb HB.size
      have OU := own.mono HB.size
      clear own
      replace HB := HB.trans (hb.mono HB.size)
      clear hb
      obtain ⟨es, hes⟩ : ∃ z, (cut5 us wv).1 = z := ⟨_, rfl⟩
      obtain ⟨pv, hpv⟩ : ∃ z, (cut5 us wv).2.1 = z := ⟨_, rfl⟩
      obtain ⟨fb, hfb⟩ : ∃ z, (cut5 us wv).2.2 = z := ⟨_, rfl⟩
      have hCi : Hid (∀ (w : World) (A : Option Addr) (c : Nat), RdF loomF w w.heap.size A us.length c us → Calls Try.prog 13 #[.slice A us.length c, .int .i64 wv] w (OutFib loomF w es pv fb)) := Lib.hid fun w A c h => (by have := implCutOff_any A _ c _ us wv w h (Nat.le_refl _); rw [hes, hpv, hfb] at this; exact this)
      have hCs : Hid (∀ (w : World) (A : Option Addr) (c : Nat), RdF loomF w w.heap.size A us.length c us → Calls Try.prog 14 #[.slice A us.length c, .int .i64 wv] w (OutFib loomF w es pv fb)) := Lib.hid fun w A c h => (by have := specCutOff_any A _ c _ us wv w h (Nat.le_refl _); rw [hes, hpv, hfb] at this; exact this)
      have hpI : I64 pv := by rw [← hpv]; exact cut_fits OU.2
      have HCB : Hid (fb = true → ∀ (i : Nat) (a : LoomR), us[i]? = some a → a.f0 = wv → a.f4 = 1 → warp5 es wv pv a.f3 = (us, true)) := Lib.hid fun ho i a ha hi hs => by
        have h1 := cut_back (hfb.trans ho) ha hi hs
        rw [hes, hpv] at h1
        exact h1
      clear hes hpv hfb hwv
      go_wp2_with fail
      refine (hCi.out _ _ _ OU.rd).mono ?_
      rintro e w8 ⟨A6, c6, rfl, own, hb⟩
      replace OU := OU.all hb
      replace R := R.all hb HB.size
      have OE := own.mono HB.size
      clear own
      replace HB := HB.trans (hb.mono HB.size)
      clear hb
      go_wp2_with fail
      refine (hCs.out _ _ _ OU.rd).mono ?_
      rintro e w9 ⟨A7, c7, rfl, own, hb⟩
      replace OU := OU.all hb
      replace OE := OE.all hb
      replace R := R.all hb HB.size
      have OS := own.mono HB.size
      clear own
      replace HB := HB.trans (hb.mono HB.size)
      clear hb
      clear hCi hCs
      go_wp2_with fail
      refine (rLooms_same _ _ _ _ _ _ _ _ es _ OE.rd OS.rd).mono ?_
      rintro e w10 ⟨rfl, hb⟩
      replace OU := OU.all hb
      replace OE := OE.all hb
      replace OS := OS.all hb
      replace R := R.all hb HB.size
      replace HB := HB.trans (hb.mono HB.size)
      clear hb
      clear OS
      cases fb
      case false =>
        clear HCB hpI
        go_wp2
        go_loopw [22] (fun ii wr => ∃ q : Nat, ii = .int .i64 0 ∧ wr = w10.drewN q) (fun _ _ => 0)
        case atStart => exact ⟨0, rfl, rfl⟩
        case round =>
          obtain ⟨q, rfl, rfl⟩ := hrel
          replace OU := OU.all (low_drewN _ q)
          replace OE := OE.all (low_drewN _ q)
          replace R := R.all (low_drewN _ q) HB.size
          replace HB := HB.trans ((low_drewN _ q).mono HB.size)
          generalize w10.drewN q = w11 at *
          clear OU OE
          by_cases hus : (0 : Int) < (us.length : Int)
          · skip
            go_wp2_with fail
            refine (drawBeginCarpet_any A n c w.heap.size _ R HB.size hn).mono ?_
            rintro e w12 ⟨A8, c8, vs, xv, rfl, hvl, hxv, own, hb⟩
            replace R := R.all hb HB.size
            have OV := own.mono HB.size
            clear own
            replace HB := HB.trans (hb.mono HB.size)
            clear hb
            obtain ⟨bs, hbs⟩ : ∃ z, (begin5 vs xv).1 = z := ⟨_, rfl⟩
            obtain ⟨bb, hbb⟩ : ∃ z, (begin5 vs xv).2 = z := ⟨_, rfl⟩
            have hBi : Hid (∀ (w : World) (A : Option Addr) (c : Nat), RdF loomF w w.heap.size A vs.length c vs → Calls Try.prog 17 #[.slice A vs.length c, .int .i64 xv] w (OutF loomF w bs bb)) := Lib.hid fun w A c h => (by have := implBeginCarpet_any A _ c _ vs xv w h (Nat.le_refl _); rw [hbs, hbb] at this; exact this)
            have hBs : Hid (∀ (w : World) (A : Option Addr) (c : Nat), RdF loomF w w.heap.size A vs.length c vs → Calls Try.prog 18 #[.slice A vs.length c, .int .i64 xv] w (OutF loomF w bs bb)) := Lib.hid fun w A c h => (by have := specBeginCarpet_any A _ c _ vs xv w h (Nat.le_refl _); rw [hbs, hbb] at this; exact this)
            clear hbs hbb hxv
            go_wp2_with fail
            refine (hBi.out _ _ _ OV.rd).mono ?_
            rintro e w13 ⟨A9, c9, rfl, own, hb⟩
            replace OV := OV.all hb
            replace R := R.all hb HB.size
            have OT := own.mono HB.size
            clear own
            replace HB := HB.trans (hb.mono HB.size)
            clear hb
            go_wp2_with fail
            refine (hBs.out _ _ _ OV.rd).mono ?_
            rintro e w14 ⟨A10, c10, rfl, own, hb⟩
            replace OV := OV.all hb
            replace OT := OT.all hb
            replace R := R.all hb HB.size
            have OS := own.mono HB.size
            clear own
            replace HB := HB.trans (hb.mono HB.size)
            clear hb
            clear hBi hBs
            go_wp2_with fail
            refine (rLooms_same _ _ _ _ _ _ _ _ bs _ OT.rd OS.rd).mono ?_
            rintro e w15 ⟨rfl, hb⟩
            replace OV := OV.all hb
            replace OT := OT.all hb
            replace OS := OS.all hb
            replace R := R.all hb HB.size
            replace HB := HB.trans (hb.mono HB.size)
            clear hb
            clear OV OT OS
            go_wp2_with fail
            refine (drawDaysLeft_any A n c w.heap.size _ R HB.size hn).mono ?_
            rintro e w16 ⟨A11, c11, ds, yv, rfl, hdl, hyv, own, hb⟩
            replace R := R.all hb HB.size
            have OD := own.mono HB.size
            clear own
            replace HB := HB.trans (hb.mono HB.size)
            clear hb
            obtain ⟨l2, hl2⟩ : ∃ z, (left5 ds yv).1 = z := ⟨_, rfl⟩
            obtain ⟨b2, hb2⟩ : ∃ z, (left5 ds yv).2 = z := ⟨_, rfl⟩
            have hDi : Hid (∀ (w : World) (A : Option Addr) (c : Nat), RdF loomF w w.heap.size A ds.length c ds → Calls Try.prog 10 #[.slice A ds.length c, .int .i64 yv] w (Out w (.tuple #[.int .i64 l2, .bool b2]))) := Lib.hid fun w A c h => (by have := implDaysLeft_any A _ c _ ds yv w h (Nat.le_refl _); rw [hl2, hb2] at this; exact this)
            have hDs : Hid (∀ (w : World) (A : Option Addr) (c : Nat), RdF loomF w w.heap.size A ds.length c ds → Calls Try.prog 20 #[.slice A ds.length c, .int .i64 yv] w (Out w (.tuple #[.int .i64 l2, .bool b2]))) := Lib.hid fun w A c h => (by have := specDaysLeft_any A _ c _ ds yv w h (Nat.le_refl _); rw [hl2, hb2] at this; exact this)
            have hpos : 0 ≤ l2 := by rw [← hl2]; exact left_pos ds yv
            clear hl2 hb2 hyv
            go_wp2_with fail
            refine (hDi.out _ _ _ OD.rd).mono ?_
            rintro e w17 ⟨rfl, hb⟩
            replace OD := OD.all hb
            replace R := R.all hb HB.size
            replace HB := HB.trans (hb.mono HB.size)
            clear hb
            go_wp2_with fail
            refine (hDs.out _ _ _ OD.rd).mono ?_
            rintro e w18 ⟨rfl, hb⟩
            replace OD := OD.all hb
            replace R := R.all hb HB.size
            replace HB := HB.trans (hb.mono HB.size)
            clear hb
            clear hDi hDs
            go_wp2
            go_ret
            exact ⟨ret_bool (by first | (simp; done) | simp [hpos] | rfl), HB⟩
          · skip
            go_wp2_with fail
            refine (drawBeginCarpet_any A n c w.heap.size _ R HB.size hn).mono ?_
            rintro e w12 ⟨A8, c8, vs, xv, rfl, hvl, hxv, own, hb⟩
            replace R := R.all hb HB.size
            have OV := own.mono HB.size
            clear own
            replace HB := HB.trans (hb.mono HB.size)
            clear hb
            obtain ⟨bs, hbs⟩ : ∃ z, (begin5 vs xv).1 = z := ⟨_, rfl⟩
            obtain ⟨bb, hbb⟩ : ∃ z, (begin5 vs xv).2 = z := ⟨_, rfl⟩
            have hBi : Hid (∀ (w : World) (A : Option Addr) (c : Nat), RdF loomF w w.heap.size A vs.length c vs → Calls Try.prog 17 #[.slice A vs.length c, .int .i64 xv] w (OutF loomF w bs bb)) := Lib.hid fun w A c h => (by have := implBeginCarpet_any A _ c _ vs xv w h (Nat.le_refl _); rw [hbs, hbb] at this; exact this)
            have hBs : Hid (∀ (w : World) (A : Option Addr) (c : Nat), RdF loomF w w.heap.size A vs.length c vs → Calls Try.prog 18 #[.slice A vs.length c, .int .i64 xv] w (OutF loomF w bs bb)) := Lib.hid fun w A c h => (by have := specBeginCarpet_any A _ c _ vs xv w h (Nat.le_refl _); rw [hbs, hbb] at this; exact this)
            clear hbs hbb hxv
            go_wp2_with fail
            refine (hBi.out _ _ _ OV.rd).mono ?_
            rintro e w13 ⟨A9, c9, rfl, own, hb⟩
            replace OV := OV.all hb
            replace R := R.all hb HB.size
            have OT := own.mono HB.size
            clear own
            replace HB := HB.trans (hb.mono HB.size)
            clear hb
            go_wp2_with fail
            refine (hBs.out _ _ _ OV.rd).mono ?_
            rintro e w14 ⟨A10, c10, rfl, own, hb⟩
            replace OV := OV.all hb
            replace OT := OT.all hb
            replace R := R.all hb HB.size
            have OS := own.mono HB.size
            clear own
            replace HB := HB.trans (hb.mono HB.size)
            clear hb
            clear hBi hBs
            go_wp2_with fail
            refine (rLooms_same _ _ _ _ _ _ _ _ bs _ OT.rd OS.rd).mono ?_
            rintro e w15 ⟨rfl, hb⟩
            replace OV := OV.all hb
            replace OT := OT.all hb
            replace OS := OS.all hb
            replace R := R.all hb HB.size
            replace HB := HB.trans (hb.mono HB.size)
            clear hb
            clear OV OT OS
            go_wp2_with fail
            refine (drawDaysLeft_any A n c w.heap.size _ R HB.size hn).mono ?_
            rintro e w16 ⟨A11, c11, ds, yv, rfl, hdl, hyv, own, hb⟩
            replace R := R.all hb HB.size
            have OD := own.mono HB.size
            clear own
            replace HB := HB.trans (hb.mono HB.size)
            clear hb
            obtain ⟨l2, hl2⟩ : ∃ z, (left5 ds yv).1 = z := ⟨_, rfl⟩
            obtain ⟨b2, hb2⟩ : ∃ z, (left5 ds yv).2 = z := ⟨_, rfl⟩
            have hDi : Hid (∀ (w : World) (A : Option Addr) (c : Nat), RdF loomF w w.heap.size A ds.length c ds → Calls Try.prog 10 #[.slice A ds.length c, .int .i64 yv] w (Out w (.tuple #[.int .i64 l2, .bool b2]))) := Lib.hid fun w A c h => (by have := implDaysLeft_any A _ c _ ds yv w h (Nat.le_refl _); rw [hl2, hb2] at this; exact this)
            have hDs : Hid (∀ (w : World) (A : Option Addr) (c : Nat), RdF loomF w w.heap.size A ds.length c ds → Calls Try.prog 20 #[.slice A ds.length c, .int .i64 yv] w (Out w (.tuple #[.int .i64 l2, .bool b2]))) := Lib.hid fun w A c h => (by have := specDaysLeft_any A _ c _ ds yv w h (Nat.le_refl _); rw [hl2, hb2] at this; exact this)
            have hpos : 0 ≤ l2 := by rw [← hl2]; exact left_pos ds yv
            clear hl2 hb2 hyv
            go_wp2_with fail
            refine (hDi.out _ _ _ OD.rd).mono ?_
            rintro e w17 ⟨rfl, hb⟩
            replace OD := OD.all hb
            replace R := R.all hb HB.size
            replace HB := HB.trans (hb.mono HB.size)
            clear hb
            go_wp2_with fail
            refine (hDs.out _ _ _ OD.rd).mono ?_
            rintro e w18 ⟨rfl, hb⟩
            replace OD := OD.all hb
            replace R := R.all hb HB.size
            replace HB := HB.trans (hb.mono HB.size)
            clear hb
            clear hDi hDs
            go_wp2
            go_ret
            exact ⟨ret_bool (by first | (simp; done) | simp [hpos] | rfl), HB⟩
      case true =>
        have HC2 := Lib.hid (HCB.out rfl)
        clear HCB
        go_wp2
        go_loopw [22] (fun ii wr => ∃ k : Nat, k ≤ us.length ∧ ii = .int .i64 k ∧ OwnF loomF wr w.heap.size (.slice A5 us.length c5) us ∧ OwnF loomF wr w.heap.size (.slice A6 es.length c6) es ∧ RdB wr w.heap.size A n c ∧ Below w.heap.size w wr) (fun ii _ => us.length - (intOf ii).toNat)
        case atStart => exact ⟨0, Nat.zero_le _, rfl, OU, OE, R, HB⟩
        case round =>
          clear R HB OU OE
          obtain ⟨k, hk, rfl, OU, OE, R, HB⟩ := hrel
          by_cases hlt : k < us.length
          · obtain ⟨b_, off_, a, ea, hbB, ha, HX, ga0, _, _, ga3, ga4⟩ := LoomR_at (F := loomF) rfl (fun _ => rfl) (fun _ => rfl) OU.rd hlt
            have HAC := Lib.hid (HC2.out k a HX.out)
            obtain ⟨a0, a1, a2, a3, a4⟩ := a
            simp only at ga0 ga3 ga4 HAC
            have hk0 : (0 : Int) ≤ (k : Int) := by omega
            have hkn : (k : Int) < (us.length : Int) := by omega
            have hI3 : I64 a3 := ha.2.2.2.1
            subst ea
            by_cases h0 : a0 = wv
            rotate_left
            · have h0' : (a0 == wv) = false := by simpa using h0
              clear h0
              go_wp2
              go_roundw
              case rel => exact ⟨k + 1, by omega, by go_num, OU, OE, R, HB⟩
              case measure => simp [intOf]; omega
            by_cases h1 : a4 = 1
            rotate_left
            · have h1' : (a4 == 1) = false := by simpa using h1
              clear h1
              subst h0
              go_wp2
              go_roundw
              case rel => exact ⟨k + 1, by omega, by go_num, OU, OE, R, HB⟩
              case measure => simp [intOf]; omega
            have HW := Lib.hid (HAC.out h0 h1)
            subst h0
            subst h1
            go_wp2_with fail
            refine (show Calls Try.prog 15 #[.slice A6 es.length c6, .int .i64 a0, .int .i64 pv, .int .i64 a3] wr (OutF loomF wr us true) from (by have := implWarpLoom_any A6 _ c6 _ es a0 pv a3 wr OE.rd (Nat.le_refl _) hpI hI3; rw [HW.out] at this; exact this)).mono ?_
            rintro e w91 ⟨A12, c12, rfl, OB, hb⟩
            replace OU := OU.all hb
            replace OE := OE.all hb
            replace R := R.all hb HB.size
            replace HB := HB.trans (hb.mono HB.size)
            clear hb ga0 ga3 ga4
            go_wp2_with fail
            refine (rLooms_same _ _ _ _ _ _ _ _ us _ OB.rd OU.rd).mono ?_
            rintro e w92 ⟨rfl, hb⟩
            replace OU := OU.all hb
            replace OE := OE.all hb
            replace R := R.all hb HB.size
            replace HB := HB.trans (hb.mono HB.size)
            clear hb OB
            go_wp2
            go_roundw
            case rel => exact ⟨k + 1, by omega, by go_num, OU, OE, R, HB⟩
            case measure => simp [intOf]; omega
          · clear HC2 hpI
            clear OU OE
            go_wp2_with fail
            refine (drawBeginCarpet_any A n c w.heap.size _ R HB.size hn).mono ?_
            rintro e w11 ⟨A8, c8, vs, xv, rfl, hvl, hxv, own, hb⟩
            replace R := R.all hb HB.size
            have OV := own.mono HB.size
            clear own
            replace HB := HB.trans (hb.mono HB.size)
            clear hb
            obtain ⟨bs, hbs⟩ : ∃ z, (begin5 vs xv).1 = z := ⟨_, rfl⟩
            obtain ⟨bb, hbb⟩ : ∃ z, (begin5 vs xv).2 = z := ⟨_, rfl⟩
            have hBi : Hid (∀ (w : World) (A : Option Addr) (c : Nat), RdF loomF w w.heap.size A vs.length c vs → Calls Try.prog 17 #[.slice A vs.length c, .int .i64 xv] w (OutF loomF w bs bb)) := Lib.hid fun w A c h => (by have := implBeginCarpet_any A _ c _ vs xv w h (Nat.le_refl _); rw [hbs, hbb] at this; exact this)
            have hBs : Hid (∀ (w : World) (A : Option Addr) (c : Nat), RdF loomF w w.heap.size A vs.length c vs → Calls Try.prog 18 #[.slice A vs.length c, .int .i64 xv] w (OutF loomF w bs bb)) := Lib.hid fun w A c h => (by have := specBeginCarpet_any A _ c _ vs xv w h (Nat.le_refl _); rw [hbs, hbb] at this; exact this)
            clear hbs hbb hxv
            go_wp2_with fail
            refine (hBi.out _ _ _ OV.rd).mono ?_
            rintro e w12 ⟨A9, c9, rfl, own, hb⟩
            replace OV := OV.all hb
            replace R := R.all hb HB.size
            have OT := own.mono HB.size
            clear own
            replace HB := HB.trans (hb.mono HB.size)
            clear hb
            go_wp2_with fail
            refine (hBs.out _ _ _ OV.rd).mono ?_
            rintro e w13 ⟨A10, c10, rfl, own, hb⟩
            replace OV := OV.all hb
            replace OT := OT.all hb
            replace R := R.all hb HB.size
            have OS := own.mono HB.size
            clear own
            replace HB := HB.trans (hb.mono HB.size)
            clear hb
            clear hBi hBs
            go_wp2_with fail
            refine (rLooms_same _ _ _ _ _ _ _ _ bs _ OT.rd OS.rd).mono ?_
            rintro e w14 ⟨rfl, hb⟩
            replace OV := OV.all hb
            replace OT := OT.all hb
            replace OS := OS.all hb
            replace R := R.all hb HB.size
            replace HB := HB.trans (hb.mono HB.size)
            clear hb
            clear OV OT OS
            go_wp2_with fail
            refine (drawDaysLeft_any A n c w.heap.size _ R HB.size hn).mono ?_
            rintro e w15 ⟨A11, c11, ds, yv, rfl, hdl, hyv, own, hb⟩
            replace R := R.all hb HB.size
            have OD := own.mono HB.size
            clear own
            replace HB := HB.trans (hb.mono HB.size)
            clear hb
            obtain ⟨l2, hl2⟩ : ∃ z, (left5 ds yv).1 = z := ⟨_, rfl⟩
            obtain ⟨b2, hb2⟩ : ∃ z, (left5 ds yv).2 = z := ⟨_, rfl⟩
            have hDi : Hid (∀ (w : World) (A : Option Addr) (c : Nat), RdF loomF w w.heap.size A ds.length c ds → Calls Try.prog 10 #[.slice A ds.length c, .int .i64 yv] w (Out w (.tuple #[.int .i64 l2, .bool b2]))) := Lib.hid fun w A c h => (by have := implDaysLeft_any A _ c _ ds yv w h (Nat.le_refl _); rw [hl2, hb2] at this; exact this)
            have hDs : Hid (∀ (w : World) (A : Option Addr) (c : Nat), RdF loomF w w.heap.size A ds.length c ds → Calls Try.prog 20 #[.slice A ds.length c, .int .i64 yv] w (Out w (.tuple #[.int .i64 l2, .bool b2]))) := Lib.hid fun w A c h => (by have := specDaysLeft_any A _ c _ ds yv w h (Nat.le_refl _); rw [hl2, hb2] at this; exact this)
            have hpos : 0 ≤ l2 := by rw [← hl2]; exact left_pos ds yv
            clear hl2 hb2 hyv
            go_wp2_with fail
            refine (hDi.out _ _ _ OD.rd).mono ?_
            rintro e w16 ⟨rfl, hb⟩
            replace OD := OD.all hb
            replace R := R.all hb HB.size
            replace HB := HB.trans (hb.mono HB.size)
            clear hb
            go_wp2_with fail
            refine (hDs.out _ _ _ OD.rd).mono ?_
            rintro e w17 ⟨rfl, hb⟩
            replace OD := OD.all hb
            replace R := R.all hb HB.size
            replace HB := HB.trans (hb.mono HB.size)
            clear hb
            clear hDi hDs
            go_wp2
            go_ret
            exact ⟨ret_bool (by first | (simp; done) | simp [hpos] | rfl), HB⟩
    · have h3' : decide (nv < dv) = false := decide_eq_false h3
      clear HW3 h3
      go_wp2_with fail
      refine (hAL.out _ _ _ OY.rd).mono ?_
      rintro e w6 ⟨rfl, hb⟩
      replace OX := OX.all hb
      replace OY := OY.all hb
      replace R := R.all hb HB.size
      replace HB := HB.trans (hb.mono HB.size)
      clear hb
      clear hAL p1 p2 h3'
      clear OX OY
      go_wp2_with fail
      refine (drawCutOff_any A n c w.heap.size _ R HB.size hn).mono ?_
      rintro e w7 ⟨A5, c5, us, wv, rfl, hul, hwv, own, hb⟩
      replace R := R.all hb HB.size
      have OU := own.mono HB.size
      clear own
      replace HB := HB.trans (hb.mono HB.size)
      clear hb
      obtain ⟨es, hes⟩ : ∃ z, (cut5 us wv).1 = z := ⟨_, rfl⟩
      obtain ⟨pv, hpv⟩ : ∃ z, (cut5 us wv).2.1 = z := ⟨_, rfl⟩
      obtain ⟨fb, hfb⟩ : ∃ z, (cut5 us wv).2.2 = z := ⟨_, rfl⟩
      have hCi : Hid (∀ (w : World) (A : Option Addr) (c : Nat), RdF loomF w w.heap.size A us.length c us → Calls Try.prog 13 #[.slice A us.length c, .int .i64 wv] w (OutFib loomF w es pv fb)) := Lib.hid fun w A c h => (by have := implCutOff_any A _ c _ us wv w h (Nat.le_refl _); rw [hes, hpv, hfb] at this; exact this)
      have hCs : Hid (∀ (w : World) (A : Option Addr) (c : Nat), RdF loomF w w.heap.size A us.length c us → Calls Try.prog 14 #[.slice A us.length c, .int .i64 wv] w (OutFib loomF w es pv fb)) := Lib.hid fun w A c h => (by have := specCutOff_any A _ c _ us wv w h (Nat.le_refl _); rw [hes, hpv, hfb] at this; exact this)
      have hpI : I64 pv := by rw [← hpv]; exact cut_fits OU.2
      have HCB : Hid (fb = true → ∀ (i : Nat) (a : LoomR), us[i]? = some a → a.f0 = wv → a.f4 = 1 → warp5 es wv pv a.f3 = (us, true)) := Lib.hid fun ho i a ha hi hs => by
        have h1 := cut_back (hfb.trans ho) ha hi hs
        rw [hes, hpv] at h1
        exact h1
      clear hes hpv hfb hwv
      go_wp2_with fail
      refine (hCi.out _ _ _ OU.rd).mono ?_
      rintro e w8 ⟨A6, c6, rfl, own, hb⟩
      replace OU := OU.all hb
      replace R := R.all hb HB.size
      have OE := own.mono HB.size
      clear own
      replace HB := HB.trans (hb.mono HB.size)
      clear hb
      go_wp2_with fail
      refine (hCs.out _ _ _ OU.rd).mono ?_
      rintro e w9 ⟨A7, c7, rfl, own, hb⟩
      replace OU := OU.all hb
      replace OE := OE.all hb
      replace R := R.all hb HB.size
      have OS := own.mono HB.size
      clear own
      replace HB := HB.trans (hb.mono HB.size)
      clear hb
      clear hCi hCs
      go_wp2_with fail
      refine (rLooms_same _ _ _ _ _ _ _ _ es _ OE.rd OS.rd).mono ?_
      rintro e w10 ⟨rfl, hb⟩
      replace OU := OU.all hb
      replace OE := OE.all hb
      replace OS := OS.all hb
      replace R := R.all hb HB.size
      replace HB := HB.trans (hb.mono HB.size)
      clear hb
      clear OS
      cases fb
      case false =>
        clear HCB hpI
        go_wp2
        go_loopw [22] (fun ii wr => ∃ q : Nat, ii = .int .i64 0 ∧ wr = w10.drewN q) (fun _ _ => 0)
        case atStart => exact ⟨0, rfl, rfl⟩
        case round =>
          obtain ⟨q, rfl, rfl⟩ := hrel
          replace OU := OU.all (low_drewN _ q)
          replace OE := OE.all (low_drewN _ q)
          replace R := R.all (low_drewN _ q) HB.size
          replace HB := HB.trans ((low_drewN _ q).mono HB.size)
          generalize w10.drewN q = w11 at *
          clear OU OE
          by_cases hus : (0 : Int) < (us.length : Int)
          · skip
            go_wp2_with fail
            refine (drawBeginCarpet_any A n c w.heap.size _ R HB.size hn).mono ?_
            rintro e w12 ⟨A8, c8, vs, xv, rfl, hvl, hxv, own, hb⟩
            replace R := R.all hb HB.size
            have OV := own.mono HB.size
            clear own
            replace HB := HB.trans (hb.mono HB.size)
            clear hb
            obtain ⟨bs, hbs⟩ : ∃ z, (begin5 vs xv).1 = z := ⟨_, rfl⟩
            obtain ⟨bb, hbb⟩ : ∃ z, (begin5 vs xv).2 = z := ⟨_, rfl⟩
            have hBi : Hid (∀ (w : World) (A : Option Addr) (c : Nat), RdF loomF w w.heap.size A vs.length c vs → Calls Try.prog 17 #[.slice A vs.length c, .int .i64 xv] w (OutF loomF w bs bb)) := Lib.hid fun w A c h => (by have := implBeginCarpet_any A _ c _ vs xv w h (Nat.le_refl _); rw [hbs, hbb] at this; exact this)
            have hBs : Hid (∀ (w : World) (A : Option Addr) (c : Nat), RdF loomF w w.heap.size A vs.length c vs → Calls Try.prog 18 #[.slice A vs.length c, .int .i64 xv] w (OutF loomF w bs bb)) := Lib.hid fun w A c h => (by have := specBeginCarpet_any A _ c _ vs xv w h (Nat.le_refl _); rw [hbs, hbb] at this; exact this)
            clear hbs hbb hxv
            go_wp2_with fail
            refine (hBi.out _ _ _ OV.rd).mono ?_
            rintro e w13 ⟨A9, c9, rfl, own, hb⟩
            replace OV := OV.all hb
            replace R := R.all hb HB.size
            have OT := own.mono HB.size
            clear own
            replace HB := HB.trans (hb.mono HB.size)
            clear hb
            go_wp2_with fail
            refine (hBs.out _ _ _ OV.rd).mono ?_
            rintro e w14 ⟨A10, c10, rfl, own, hb⟩
            replace OV := OV.all hb
            replace OT := OT.all hb
            replace R := R.all hb HB.size
            have OS := own.mono HB.size
            clear own
            replace HB := HB.trans (hb.mono HB.size)
            clear hb
            clear hBi hBs
            go_wp2_with fail
            refine (rLooms_same _ _ _ _ _ _ _ _ bs _ OT.rd OS.rd).mono ?_
            rintro e w15 ⟨rfl, hb⟩
            replace OV := OV.all hb
            replace OT := OT.all hb
            replace OS := OS.all hb
            replace R := R.all hb HB.size
            replace HB := HB.trans (hb.mono HB.size)
            clear hb
            clear OV OT OS
            go_wp2_with fail
            refine (drawDaysLeft_any A n c w.heap.size _ R HB.size hn).mono ?_
            rintro e w16 ⟨A11, c11, ds, yv, rfl, hdl, hyv, own, hb⟩
            replace R := R.all hb HB.size
            have OD := own.mono HB.size
            clear own
            replace HB := HB.trans (hb.mono HB.size)
            clear hb
            obtain ⟨l2, hl2⟩ : ∃ z, (left5 ds yv).1 = z := ⟨_, rfl⟩
            obtain ⟨b2, hb2⟩ : ∃ z, (left5 ds yv).2 = z := ⟨_, rfl⟩
            have hDi : Hid (∀ (w : World) (A : Option Addr) (c : Nat), RdF loomF w w.heap.size A ds.length c ds → Calls Try.prog 10 #[.slice A ds.length c, .int .i64 yv] w (Out w (.tuple #[.int .i64 l2, .bool b2]))) := Lib.hid fun w A c h => (by have := implDaysLeft_any A _ c _ ds yv w h (Nat.le_refl _); rw [hl2, hb2] at this; exact this)
            have hDs : Hid (∀ (w : World) (A : Option Addr) (c : Nat), RdF loomF w w.heap.size A ds.length c ds → Calls Try.prog 20 #[.slice A ds.length c, .int .i64 yv] w (Out w (.tuple #[.int .i64 l2, .bool b2]))) := Lib.hid fun w A c h => (by have := specDaysLeft_any A _ c _ ds yv w h (Nat.le_refl _); rw [hl2, hb2] at this; exact this)
            have hpos : 0 ≤ l2 := by rw [← hl2]; exact left_pos ds yv
            clear hl2 hb2 hyv
            go_wp2_with fail
            refine (hDi.out _ _ _ OD.rd).mono ?_
            rintro e w17 ⟨rfl, hb⟩
            replace OD := OD.all hb
            replace R := R.all hb HB.size
            replace HB := HB.trans (hb.mono HB.size)
            clear hb
            go_wp2_with fail
            refine (hDs.out _ _ _ OD.rd).mono ?_
            rintro e w18 ⟨rfl, hb⟩
            replace OD := OD.all hb
            replace R := R.all hb HB.size
            replace HB := HB.trans (hb.mono HB.size)
            clear hb
            clear hDi hDs
            go_wp2
            go_ret
            exact ⟨ret_bool (by first | (simp; done) | simp [hpos] | rfl), HB⟩
          · skip
            go_wp2_with fail
            refine (drawBeginCarpet_any A n c w.heap.size _ R HB.size hn).mono ?_
            rintro e w12 ⟨A8, c8, vs, xv, rfl, hvl, hxv, own, hb⟩
            replace R := R.all hb HB.size
            have OV := own.mono HB.size
            clear own
            replace HB := HB.trans (hb.mono HB.size)
            clear hb
            obtain ⟨bs, hbs⟩ : ∃ z, (begin5 vs xv).1 = z := ⟨_, rfl⟩
            obtain ⟨bb, hbb⟩ : ∃ z, (begin5 vs xv).2 = z := ⟨_, rfl⟩
            have hBi : Hid (∀ (w : World) (A : Option Addr) (c : Nat), RdF loomF w w.heap.size A vs.length c vs → Calls Try.prog 17 #[.slice A vs.length c, .int .i64 xv] w (OutF loomF w bs bb)) := Lib.hid fun w A c h => (by have := implBeginCarpet_any A _ c _ vs xv w h (Nat.le_refl _); rw [hbs, hbb] at this; exact this)
            have hBs : Hid (∀ (w : World) (A : Option Addr) (c : Nat), RdF loomF w w.heap.size A vs.length c vs → Calls Try.prog 18 #[.slice A vs.length c, .int .i64 xv] w (OutF loomF w bs bb)) := Lib.hid fun w A c h => (by have := specBeginCarpet_any A _ c _ vs xv w h (Nat.le_refl _); rw [hbs, hbb] at this; exact this)
            clear hbs hbb hxv
            go_wp2_with fail
            refine (hBi.out _ _ _ OV.rd).mono ?_
            rintro e w13 ⟨A9, c9, rfl, own, hb⟩
            replace OV := OV.all hb
            replace R := R.all hb HB.size
            have OT := own.mono HB.size
            clear own
            replace HB := HB.trans (hb.mono HB.size)
            clear hb
            go_wp2_with fail
            refine (hBs.out _ _ _ OV.rd).mono ?_
            rintro e w14 ⟨A10, c10, rfl, own, hb⟩
            replace OV := OV.all hb
            replace OT := OT.all hb
            replace R := R.all hb HB.size
            have OS := own.mono HB.size
            clear own
            replace HB := HB.trans (hb.mono HB.size)
            clear hb
            clear hBi hBs
            go_wp2_with fail
            refine (rLooms_same _ _ _ _ _ _ _ _ bs _ OT.rd OS.rd).mono ?_
            rintro e w15 ⟨rfl, hb⟩
            replace OV := OV.all hb
            replace OT := OT.all hb
            replace OS := OS.all hb
            replace R := R.all hb HB.size
            replace HB := HB.trans (hb.mono HB.size)
            clear hb
            clear OV OT OS
            go_wp2_with fail
            refine (drawDaysLeft_any A n c w.heap.size _ R HB.size hn).mono ?_
            rintro e w16 ⟨A11, c11, ds, yv, rfl, hdl, hyv, own, hb⟩
            replace R := R.all hb HB.size
            have OD := own.mono HB.size
            clear own
            replace HB := HB.trans (hb.mono HB.size)
            clear hb
            obtain ⟨l2, hl2⟩ : ∃ z, (left5 ds yv).1 = z := ⟨_, rfl⟩
            obtain ⟨b2, hb2⟩ : ∃ z, (left5 ds yv).2 = z := ⟨_, rfl⟩
            have hDi : Hid (∀ (w : World) (A : Option Addr) (c : Nat), RdF loomF w w.heap.size A ds.length c ds → Calls Try.prog 10 #[.slice A ds.length c, .int .i64 yv] w (Out w (.tuple #[.int .i64 l2, .bool b2]))) := Lib.hid fun w A c h => (by have := implDaysLeft_any A _ c _ ds yv w h (Nat.le_refl _); rw [hl2, hb2] at this; exact this)
            have hDs : Hid (∀ (w : World) (A : Option Addr) (c : Nat), RdF loomF w w.heap.size A ds.length c ds → Calls Try.prog 20 #[.slice A ds.length c, .int .i64 yv] w (Out w (.tuple #[.int .i64 l2, .bool b2]))) := Lib.hid fun w A c h => (by have := specDaysLeft_any A _ c _ ds yv w h (Nat.le_refl _); rw [hl2, hb2] at this; exact this)
            have hpos : 0 ≤ l2 := by rw [← hl2]; exact left_pos ds yv
            clear hl2 hb2 hyv
            go_wp2_with fail
            refine (hDi.out _ _ _ OD.rd).mono ?_
            rintro e w17 ⟨rfl, hb⟩
            replace OD := OD.all hb
            replace R := R.all hb HB.size
            replace HB := HB.trans (hb.mono HB.size)
            clear hb
            go_wp2_with fail
            refine (hDs.out _ _ _ OD.rd).mono ?_
            rintro e w18 ⟨rfl, hb⟩
            replace OD := OD.all hb
            replace R := R.all hb HB.size
            replace HB := HB.trans (hb.mono HB.size)
            clear hb
            clear hDi hDs
            go_wp2
            go_ret
            exact ⟨ret_bool (by first | (simp; done) | simp [hpos] | rfl), HB⟩
      case true =>
        have HC2 := Lib.hid (HCB.out rfl)
        clear HCB
        go_wp2
        go_loopw [22] (fun ii wr => ∃ k : Nat, k ≤ us.length ∧ ii = .int .i64 k ∧ OwnF loomF wr w.heap.size (.slice A5 us.length c5) us ∧ OwnF loomF wr w.heap.size (.slice A6 es.length c6) es ∧ RdB wr w.heap.size A n c ∧ Below w.heap.size w wr) (fun ii _ => us.length - (intOf ii).toNat)
        case atStart => exact ⟨0, Nat.zero_le _, rfl, OU, OE, R, HB⟩
        case round =>
          clear R HB OU OE
          obtain ⟨k, hk, rfl, OU, OE, R, HB⟩ := hrel
          by_cases hlt : k < us.length
          · obtain ⟨b_, off_, a, ea, hbB, ha, HX, ga0, _, _, ga3, ga4⟩ := LoomR_at (F := loomF) rfl (fun _ => rfl) (fun _ => rfl) OU.rd hlt
            have HAC := Lib.hid (HC2.out k a HX.out)
            obtain ⟨a0, a1, a2, a3, a4⟩ := a
            simp only at ga0 ga3 ga4 HAC
            have hk0 : (0 : Int) ≤ (k : Int) := by omega
            have hkn : (k : Int) < (us.length : Int) := by omega
            have hI3 : I64 a3 := ha.2.2.2.1
            subst ea
            by_cases h0 : a0 = wv
            rotate_left
            · have h0' : (a0 == wv) = false := by simpa using h0
              clear h0
              go_wp2
              go_roundw
              case rel => exact ⟨k + 1, by omega, by go_num, OU, OE, R, HB⟩
              case measure => simp [intOf]; omega
            by_cases h1 : a4 = 1
            rotate_left
            · have h1' : (a4 == 1) = false := by simpa using h1
              clear h1
              subst h0
              go_wp2
              go_roundw
              case rel => exact ⟨k + 1, by omega, by go_num, OU, OE, R, HB⟩
              case measure => simp [intOf]; omega
            have HW := Lib.hid (HAC.out h0 h1)
            subst h0
            subst h1
            go_wp2_with fail
            refine (show Calls Try.prog 15 #[.slice A6 es.length c6, .int .i64 a0, .int .i64 pv, .int .i64 a3] wr (OutF loomF wr us true) from (by have := implWarpLoom_any A6 _ c6 _ es a0 pv a3 wr OE.rd (Nat.le_refl _) hpI hI3; rw [HW.out] at this; exact this)).mono ?_
            rintro e w91 ⟨A12, c12, rfl, OB, hb⟩
            replace OU := OU.all hb
            replace OE := OE.all hb
            replace R := R.all hb HB.size
            replace HB := HB.trans (hb.mono HB.size)
            clear hb ga0 ga3 ga4
            go_wp2_with fail
            refine (rLooms_same _ _ _ _ _ _ _ _ us _ OB.rd OU.rd).mono ?_
            rintro e w92 ⟨rfl, hb⟩
            replace OU := OU.all hb
            replace OE := OE.all hb
            replace R := R.all hb HB.size
            replace HB := HB.trans (hb.mono HB.size)
            clear hb OB
            go_wp2
            go_roundw
            case rel => exact ⟨k + 1, by omega, by go_num, OU, OE, R, HB⟩
            case measure => simp [intOf]; omega
          · clear HC2 hpI
            clear OU OE
            go_wp2_with fail
            refine (drawBeginCarpet_any A n c w.heap.size _ R HB.size hn).mono ?_
            rintro e w11 ⟨A8, c8, vs, xv, rfl, hvl, hxv, own, hb⟩
            replace R := R.all hb HB.size
            have OV := own.mono HB.size
            clear own
            replace HB := HB.trans (hb.mono HB.size)
            clear hb
            obtain ⟨bs, hbs⟩ : ∃ z, (begin5 vs xv).1 = z := ⟨_, rfl⟩
            obtain ⟨bb, hbb⟩ : ∃ z, (begin5 vs xv).2 = z := ⟨_, rfl⟩
            have hBi : Hid (∀ (w : World) (A : Option Addr) (c : Nat), RdF loomF w w.heap.size A vs.length c vs → Calls Try.prog 17 #[.slice A vs.length c, .int .i64 xv] w (OutF loomF w bs bb)) := Lib.hid fun w A c h => (by have := implBeginCarpet_any A _ c _ vs xv w h (Nat.le_refl _); rw [hbs, hbb] at this; exact this)
            have hBs : Hid (∀ (w : World) (A : Option Addr) (c : Nat), RdF loomF w w.heap.size A vs.length c vs → Calls Try.prog 18 #[.slice A vs.length c, .int .i64 xv] w (OutF loomF w bs bb)) := Lib.hid fun w A c h => (by have := specBeginCarpet_any A _ c _ vs xv w h (Nat.le_refl _); rw [hbs, hbb] at this; exact this)
            clear hbs hbb hxv
            go_wp2_with fail
            refine (hBi.out _ _ _ OV.rd).mono ?_
            rintro e w12 ⟨A9, c9, rfl, own, hb⟩
            replace OV := OV.all hb
            replace R := R.all hb HB.size
            have OT := own.mono HB.size
            clear own
            replace HB := HB.trans (hb.mono HB.size)
            clear hb
            go_wp2_with fail
            refine (hBs.out _ _ _ OV.rd).mono ?_
            rintro e w13 ⟨A10, c10, rfl, own, hb⟩
            replace OV := OV.all hb
            replace OT := OT.all hb
            replace R := R.all hb HB.size
            have OS := own.mono HB.size
            clear own
            replace HB := HB.trans (hb.mono HB.size)
            clear hb
            clear hBi hBs
            go_wp2_with fail
            refine (rLooms_same _ _ _ _ _ _ _ _ bs _ OT.rd OS.rd).mono ?_
            rintro e w14 ⟨rfl, hb⟩
            replace OV := OV.all hb
            replace OT := OT.all hb
            replace OS := OS.all hb
            replace R := R.all hb HB.size
            replace HB := HB.trans (hb.mono HB.size)
            clear hb
            clear OV OT OS
            go_wp2_with fail
            refine (drawDaysLeft_any A n c w.heap.size _ R HB.size hn).mono ?_
            rintro e w15 ⟨A11, c11, ds, yv, rfl, hdl, hyv, own, hb⟩
            replace R := R.all hb HB.size
            have OD := own.mono HB.size
            clear own
            replace HB := HB.trans (hb.mono HB.size)
            clear hb
            obtain ⟨l2, hl2⟩ : ∃ z, (left5 ds yv).1 = z := ⟨_, rfl⟩
            obtain ⟨b2, hb2⟩ : ∃ z, (left5 ds yv).2 = z := ⟨_, rfl⟩
            have hDi : Hid (∀ (w : World) (A : Option Addr) (c : Nat), RdF loomF w w.heap.size A ds.length c ds → Calls Try.prog 10 #[.slice A ds.length c, .int .i64 yv] w (Out w (.tuple #[.int .i64 l2, .bool b2]))) := Lib.hid fun w A c h => (by have := implDaysLeft_any A _ c _ ds yv w h (Nat.le_refl _); rw [hl2, hb2] at this; exact this)
            have hDs : Hid (∀ (w : World) (A : Option Addr) (c : Nat), RdF loomF w w.heap.size A ds.length c ds → Calls Try.prog 20 #[.slice A ds.length c, .int .i64 yv] w (Out w (.tuple #[.int .i64 l2, .bool b2]))) := Lib.hid fun w A c h => (by have := specDaysLeft_any A _ c _ ds yv w h (Nat.le_refl _); rw [hl2, hb2] at this; exact this)
            have hpos : 0 ≤ l2 := by rw [← hl2]; exact left_pos ds yv
            clear hl2 hb2 hyv
            go_wp2_with fail
            refine (hDi.out _ _ _ OD.rd).mono ?_
            rintro e w16 ⟨rfl, hb⟩
            replace OD := OD.all hb
            replace R := R.all hb HB.size
            replace HB := HB.trans (hb.mono HB.size)
            clear hb
            go_wp2_with fail
            refine (hDs.out _ _ _ OD.rd).mono ?_
            rintro e w17 ⟨rfl, hb⟩
            replace OD := OD.all hb
            replace R := R.all hb HB.size
            replace HB := HB.trans (hb.mono HB.size)
            clear hb
            clear hDi hDs
            go_wp2
            go_ret
            exact ⟨ret_bool (by first | (simp; done) | simp [hpos] | rfl), HB⟩
end Go.Proofs.Ytoeognlfalbfkaa
