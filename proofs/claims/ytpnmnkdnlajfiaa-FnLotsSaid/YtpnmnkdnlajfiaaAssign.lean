/- The walks of IsAssignment, both texts, and of the program's isEnoughFor. No condition. -/
import Derived.Test.YtpnmnkdnlajfiaaLots
namespace Go.Proofs.Ytpnmnkdnlajfiaa
open Go.RowKit

theorem isBetween_eq (x a b : Int) (d : Bool) (w : World) (hd : inB x a b = d) : Calls Try.prog 51 #[.int .i64 x, .int .i64 a, .int .i64 b] w fun e w' => e = .returned (.bool d) ∧ w = w' := by
  subst hd; exact isBetween_any x a b w
def enoughB (sizes lots az : List Int) : Bool := decide (az.length = sizes.length) && fitG sizes lots az
set_option maxRecDepth 100000 in
set_option maxHeartbeats 4000000 in
theorem isEnoughFor_any (A1 A3 : Option Addr) (n1 c1 B1 b2 o2 c2 B2 n3 c3 B3 : Nat) (sizes lots az : List Int) (w : World) (h1 : Rd w B1 A1 n1 c1 sizes) (h2 : Rd w B2 (some ⟨b2, o2, none⟩) lots.length c2 lots) (h3 : Rd w B3 A3 n3 c3 az) (hB1 : B1 ≤ w.heap.size) (hB2 : B2 ≤ w.heap.size) (hB3 : B3 ≤ w.heap.size)
    (hl : lotsB lots = true) (hs : sizes.length ≤ 64) (hsr : ∀ y ∈ sizes, 0 ≤ y ∧ y ≤ 64) :
    Calls Try.prog 29 #[.slice A1 n1 c1, .slice (some ⟨b2, o2, none⟩) lots.length c2, .slice A3 n3 c3] w (Out w (.bool (enoughB sizes lots az))) := by
  obtain ⟨hl1, hl6, hlr⟩ := lotsB_yes hl
  have hn3 := h3.len_lt
  obtain rfl := h1.len
  obtain rfl := h3.len
  have HSR := Lib.hid hsr
  have HLR := Lib.hid hlr
  clear hl hsr hlr
  by_cases hln : az.length = sizes.length
  rotate_left
  · have hnb : ((az.length : Int) == (sizes.length : Int)) = false := by simp; omega
    have HX := Lib.hid (show enoughB sizes lots az = false by rw [enoughB, decide_eq_false hln]; rfl)
    go_enter Try.func29, Try.ntmps29
    go_wp2
    go_ret
    exact ⟨ret_bool HX.out.symm, Below.refl _ _⟩
  have HX := Lib.hid (show enoughB sizes lots az = fitG sizes lots az by rw [enoughB, decide_eq_true hln]; rfl)
  have hnb : ((az.length : Int) == (sizes.length : Int)) = true := by simp; omega
  have HLN := Lib.hid hln
  have haz : az.length ≤ 64 := by omega
  have hcl : lots.length ≤ 1048576 := by omega
  clear hln
  go_enter Try.func29, Try.ntmps29
  go_wp2_with fail
  refine (cloneInts_any b2 o2 _ c2 B2 lots w h2 hB2 hcl).mono ?_
  rintro e w2 ⟨A4, c4, rfl, oC, hb2⟩
  obtain ⟨G, rfl, hGw, _⟩ := oC.some_ (by omega)
  have HE := Lib.hid (show fitG sizes lots az = fitG (sizes.drop 0) lots (az.drop 0) by simp)
  have HU := Lib.hid (show ∀ q, q < lots.length → 0 ≤ lots.getD q 0 ∧ lots.getD q 0 ≤ 100 from fun q hq => by
    have := HLR.out _ (List.getElem_mem hq)
    rw [getD_at hq]
    omega)
  clear hnb
  go_wp2
  go_loopw [19] (fun s19 wr => ∃ (i : Nat) (left : List Int), i ≤ az.length ∧ s19 = .int .i64 i ∧ Hid (fitG sizes lots az = fitG (sizes.drop i) left (az.drop i)) ∧ Hid (left.length = lots.length) ∧ Hid (∀ q, q < lots.length → 0 ≤ left.getD q 0 ∧ left.getD q 0 ≤ 100) ∧ Own wr w.heap.size (.slice (some ⟨G, 0, none⟩) lots.length c4) left ∧ Hid (Below w.heap.size w wr)) (fun s19 _ => az.length - (intOf s19).toNat)
  case atStart => exact ⟨0, lots, Nat.zero_le _, rfl, HE, Lib.hid (by simp), HU, oC, hb2⟩
  case round =>
    clear HE HU oC hb2
    obtain ⟨i, left, hi, rfl, HE, HLe, HU, hO, HB⟩ := hrel
    by_cases hlt : i < az.length
    · have R3 := h3.all HB.out hB3
      obtain ⟨b3, o3, kk, rfl, _, hck, hk1, hk2, HK⟩ := R3.at hlt
      obtain ⟨d, hd⟩ : ∃ d, inB kk 0 ((lots.length : Int) - 1) = d := ⟨_, rfl⟩
      have hw1 : IntKind.i64.wrap ((lots.length : Int) - 1) = (lots.length : Int) - 1 := IntWalk.i64_in _ (by omega)
      have hs1 : i < sizes.length := by rw [← HLN.out]; exact hlt
      have HDD := Lib.hid hd
      have hcc := hO.rd.cap
      clear R3
      cases d with
      | false =>
        have HF := Lib.hid (show fitG sizes lots az = false by rw [HE.out, fitG_step hlt hs1 rfl HK.out, HLe.out, hd]; rfl)
        clear hd
        go_wp2
        go_quiet ((go_at_call 51; exact quiet_same (isBetween_eq _ _ _ false _ HDD.out)))
        have HB3 := Lib.hid (belowN HB.out nq)
        go_wp2
        go_ret
        rw [HX.out, HF.out]
        exact ⟨rfl, HB3.out⟩
      | true =>
        have hkb := inB_yes hd
        obtain ⟨q, rfl⟩ := Int.eq_ofNat_of_zero_le hkb.1
        have hq : q < lots.length := by omega
        have R1 := h1.all HB.out hB1
        obtain ⟨b1, o1, s, rfl, _, hcs, hsa, hsb, HS⟩ := R1.at hs1
        have hsr : 0 ≤ s ∧ s ≤ 64 := by rw [← HS.out, getD_at hs1]; exact HSR.out _ (List.getElem_mem hs1)
        obtain ⟨u, hu⟩ : ∃ u, left.getD q 0 = u := ⟨_, rfl⟩
        have eu := own_at hO (j := q) (by rw [HLe.out]; exact hq) hu
        have hur := HU.out q hq
        rw [hu] at hur
        have HSTEP := Lib.hid (show fitG sizes lots az = (decide (s ≤ u) && fitG (sizes.drop (i + 1)) (left.set q (u - s)) (az.drop (i + 1))) by
          rw [HE.out, fitG_step hlt hs1 HS.out HK.out, HLe.out, hd, Int.toNat_natCast, hu]; rfl)
        have hqI : (q : Int) < (lots.length : Int) := by omega
        have hiI : (i : Int) < (sizes.length : Int) := by omega
        have HUq := Lib.hid hu
        clear hu R1 hd
        by_cases hlu : u < s
        · have HF := Lib.hid (show fitG sizes lots az = false by rw [HSTEP.out, decide_eq_false (by omega)]; rfl)
          go_wp2
          go_quiet ((go_at_call 51; exact quiet_same (isBetween_eq _ _ _ true _ HDD.out)))
          have HB3 := Lib.hid (belowN HB.out nq)
          go_wp2
          go_ret
          rw [HX.out, HF.out]
          exact ⟨rfl, HB3.out⟩
        · have HE2 := Lib.hid (show fitG sizes lots az = fitG (sizes.drop (i + 1)) (left.set q (u - s)) (az.drop (i + 1)) by rw [HSTEP.out, decide_eq_true (by omega)]; simp)
          have HL2 := Lib.hid (show (left.set q (u - s)).length = lots.length by rw [List.length_set]; exact HLe.out)
          have HU2 := Lib.hid (show ∀ z, z < lots.length → 0 ≤ (left.set q (u - s)).getD z 0 ∧ (left.set q (u - s)).getD z 0 ≤ 100 from fun z hz => by
            by_cases e : z = q
            · subst e
              rw [getD_set_self (by rw [HLe.out]; exact hz)]
              omega
            · rw [getD_set_ne e]
              exact HU.out z hz)
          have hud : decide (u < s) = false := by simp; omega
          have hun : ¬ (u < s) := hlu
          go_wp2
          go_quiet ((go_at_call 51; exact quiet_same (isBetween_eq _ _ _ true _ HDD.out)))
          have HB3 := Lib.hid (belowN HB.out nq)
          have hO3 := hO.drewN nq
          have hls := HLe
          clear HB hO eu hcs hck HE HU HSTEP
          generalize wr.drewN nq = W2 at *
          have R1 := h1.all HB3.out hB1
          obtain ⟨_, _, s', e', _, hcs, _, _, HS'⟩ := R1.at hs1
          cases e'
          rw [show s' = s from HS'.out.symm.trans HS.out] at hcs
          have eu := own_at hO3 (j := q) (by rw [hls.out]; exact hq) HUq.out
          obtain ⟨hfz, hO', hgr⟩ := own_put hO3 q (u - s) ⟨by omega, by omega⟩
          have hbw2 := Lib.hid (HB3.out.setCell (p := ⟨G, q, none⟩) hGw (.int .i64 (u - s)))
          have hw2 : IntKind.i64.wrap (u - s) = u - s := IntWalk.i64_in _ (by omega)
          clear hgr HS' hO3
          go_wp2
          go_region
          have hO4 := hO'.all (show Below (W2.setCell ⟨G, q, none⟩ (.int .i64 (u - s))).heap.size _ (W2.setCell ⟨G, q, none⟩ (.int .i64 (u - s))).drew from ⟨rfl, rfl, rfl, Nat.le_refl _, fun _ _ => rfl⟩)
          have HB4 := Lib.hid (belowD hbw2.out)
          clear hO' hbw2 hfz eu hcs HB3
          generalize (W2.setCell ⟨G, q, none⟩ (.int .i64 (u - s))).drew = W3 at *
          go_wp2
          go_roundw
          case rel => exact ⟨i + 1, _, hlt, by go_num, HE2, HL2, HU2, hO4, HB4⟩
          case measure => simp [intOf]; omega
    · have HF := Lib.hid (show fitG sizes lots az = true by rw [HE.out]; exact fitG_end (by omega))
      go_wp2
      go_ret
      rw [HX.out, HF.out]
      exact ⟨rfl, HB.out⟩
def askOk (W H : Int) (xs : List Int) (color : Int) (lots : List Int) : Bool := sizesOk W H xs color && lotsB lots
noncomputable def isAsg (W H : Int) (xs : List Int) (color : Int) (lots az : List Int) : Bool := askOk W H xs color lots && enoughB (sizesX W H xs color) lots az
theorem sizesX_rng {W H : Int} {xs : List Int} {color : Int} : (sizesX W H xs color).length ≤ 64 ∧ ∀ y ∈ sizesX W H xs color, 0 ≤ y ∧ y ≤ 64 := by
  cases hg : sizesOk W H xs color with
  | false => rw [sizesX_no hg]; simp
  | true =>
    have h1 : goodB W H xs = true := by simp only [sizesOk, Bool.and_eq_true] at hg; exact hg.1
    have h2 := (good_bd h1).1
    rw [show sizesX W H xs color = sizesL W.toNat xs color from if_pos hg]
    have h3 := sizesL_len W.toNat xs color
    refine ⟨by omega, fun y hy => ?_⟩
    have := sizesL_rng y hy
    omega
theorem lots_open {A : Option Addr} {n c B : Nat} {lots : List Int} {w : World} (hl : lotsB lots = true) (h : Rd w B A n c lots) : ∃ b off, A = some ⟨b, off, none⟩ ∧ n = lots.length := by
  have h1 := (lotsB_yes hl).1
  have h2 := h.len
  obtain ⟨b, off, e, _⟩ := h.cells (by omega)
  exact ⟨b, off, e, h2.symm⟩
set_option maxRecDepth 100000 in
set_option maxHeartbeats 4000000 in
theorem implIsAssignment_any (W H : Int) (A : Option Addr) (n c B : Nat) (xs : List Int) (color : Int) (A2 A3 : Option Addr) (n2 c2 B2 n3 c3 B3 : Nat) (lots az : List Int) (w : World) (h : Rd w B A n c xs) (hB : B ≤ w.heap.size) (h2 : Rd w B2 A2 n2 c2 lots) (h3 : Rd w B3 A3 n3 c3 az) (hB2 : B2 ≤ w.heap.size) (hB3 : B3 ≤ w.heap.size) :
    Calls Try.prog 11 #[chartV W H (.slice A n c), .int .i64 color, .slice A2 n2 c2, .slice A3 n3 c3] w (Out w (.tuple #[.bool (isAsg W H xs color lots az), .bool (askOk W H xs color lots)])) := by
  have hb0 : Below w.heap.size w (w.alloc (.cells #[.int .i64 W, .int .i64 H, .slice A n c] 26)) := (Below.refl _ _).alloc (Nat.le_refl _) _
  have h' := h.alloc hB (.cells #[.int .i64 W, .int .i64 H, .slice A n c] 26)
  have x0 := Blk.new w #[.int .i64 W, .int .i64 H, .slice A n c] 26
  have e0 := x0.cell 0
  have e1 := x0.cell 1
  have e2 := x0.cell 2
  obtain ⟨so, hso⟩ : ∃ so, sizesOk W H xs color = so := ⟨_, rfl⟩
  obtain ⟨lo, hlo⟩ : ∃ lo, lotsB lots = lo := ⟨_, rfl⟩
  have HXA := Lib.hid (show askOk W H xs color lots = (so && lo) by rw [askOk, hso, hlo])
  obtain ⟨hs64, hsr⟩ := sizesX_rng (W := W) (H := H) (xs := xs) (color := color)
  go_enter Try.func11, Try.ntmps11
  go_upto_region 1 with fail
  generalize w.alloc (.cells #[.int .i64 W, .int .i64 H, .slice A n c] 26) = w0 at *
  have hz0 := hb0.size
  go_wp2_with fail
  refine (implAreaSizes_any W H A n c B xs color _ h' (by omega)).mono ?_
  rintro e w1 ⟨A1, c1, rfl, oS, hb1⟩
  obtain ⟨S, hS⟩ : ∃ S, sizesX W H xs color = S := ⟨_, rfl⟩
  have HXE := Lib.hid (show isAsg W H xs color lots az = ((so && lo) && enoughB S lots az) by rw [isAsg, HXA.out, hS])
  rw [hS] at oS hs64 hsr ⊢
  rw [hso]
  have HB := Lib.hid (hb0.trans (hb1.mono hz0))
  clear hb0 hb1 h' x0 e0 e1 e2 hS hso
  have h21 := h2.all HB.out hB2
  have h31 := h3.all HB.out hB3
  have hz1 := HB.out.size
  cases so with
  | false =>
    go_wp2
    go_ret2
    rw [HXE.out, HXA.out]
    exact ⟨rfl, HB.out⟩
  | true =>
    go_wp2_with fail
    refine (areLots_any A2 n2 c2 B2 lots _ h21).mono ?_
    rintro e w2 ⟨rfl, rfl⟩
    rw [hlo]
    cases lo with
    | false =>
      go_wp2
      go_ret2
      rw [HXE.out, HXA.out]
      exact ⟨rfl, HB.out⟩
    | true =>
      obtain ⟨bl, ol, rfl, rfl⟩ := lots_open hlo h21
      go_wp2_with fail
      refine (isEnoughFor_any A1 A3 S.length c1 w1.heap.size bl ol c2 B2 n3 c3 B3 S lots az _ oS.rd h21 h31 (Nat.le_refl _) (by omega) (by omega) hlo hs64 hsr).mono ?_
      rintro e w3 ⟨rfl, hb3⟩
      have HB3 := Lib.hid (HB.out.trans (hb3.mono hz1))
      clear hb3
      go_wp2
      go_ret2
      rw [HXE.out, HXA.out]
      exact ⟨rfl, HB3.out⟩
set_option maxRecDepth 100000 in
set_option maxHeartbeats 4000000 in
theorem l12Asked_any (W H : Int) (A : Option Addr) (n c B : Nat) (xs : List Int) (color : Int) (A2 : Option Addr) (n2 c2 B2 : Nat) (lots : List Int) (w : World) (h : Rd w B A n c xs) (hB : B ≤ w.heap.size) (h2 : Rd w B2 A2 n2 c2 lots) (hB2 : B2 ≤ w.heap.size) :
    Calls Try.prog 22 #[chartV W H (.slice A n c), .int .i64 color, .slice A2 n2 c2] w (Out w (.bool (askOk W H xs color lots))) := by
  have hb0 : Below w.heap.size w (w.alloc (.cells #[.int .i64 W, .int .i64 H, .slice A n c] 26)) := (Below.refl _ _).alloc (Nat.le_refl _) _
  have h' := h.alloc hB (.cells #[.int .i64 W, .int .i64 H, .slice A n c] 26)
  have x0 := Blk.new w #[.int .i64 W, .int .i64 H, .slice A n c] 26
  have e0 := x0.cell 0
  have e1 := x0.cell 1
  have e2 := x0.cell 2
  obtain ⟨g, hg⟩ : ∃ g, goodB W H xs = g := ⟨_, rfl⟩
  obtain ⟨cl, hcl⟩ : ∃ cl, isColorB color = cl := ⟨_, rfl⟩
  obtain ⟨lo, hlo⟩ : ∃ lo, lotsB lots = lo := ⟨_, rfl⟩
  have HXA := Lib.hid (show askOk W H xs color lots = ((g && cl) && lo) by rw [askOk, sizesOk, hg, hcl, hlo])
  go_enter Try.func22, Try.ntmps22
  go_upto_region 1 with fail
  generalize w.alloc (.cells #[.int .i64 W, .int .i64 H, .slice A n c] 26) = w0 at *
  have hz0 := hb0.size
  go_wp2_with fail
  refine (l2Good_any W H A n c B xs _ h' (by omega)).mono ?_
  rintro e w1 ⟨rfl, hb1⟩
  rw [hg]
  have HB := Lib.hid (hb0.trans (hb1.mono hz0))
  have h21 := h2.all HB.out hB2
  clear hb0 hb1 h' x0 e0 e1 e2 hg
  cases g with
  | false =>
    go_wp2
    go_ret
    rw [HXA.out]
    exact ⟨rfl, HB.out⟩
  | true =>
    go_wp2_with fail
    refine (l2Color_any color w1).mono ?_
    rintro e w2 ⟨rfl, rfl⟩
    rw [hcl]
    cases cl with
    | false =>
      go_wp2
      go_ret
      rw [HXA.out]
      exact ⟨rfl, HB.out⟩
    | true =>
      go_wp2_with fail
      refine (l12Lots_any A2 n2 c2 B2 lots _ h21).mono ?_
      rintro e w2 ⟨rfl, rfl⟩
      rw [hlo]
      go_wp2
      go_ret
      rw [HXA.out]
      exact ⟨rfl, HB.out⟩
set_option maxRecDepth 100000 in
set_option maxHeartbeats 4000000 in
theorem specIsAssignment_any (W H : Int) (A : Option Addr) (n c B : Nat) (xs : List Int) (color : Int) (A2 A3 : Option Addr) (n2 c2 B2 n3 c3 B3 : Nat) (lots az : List Int) (w : World) (h : Rd w B A n c xs) (hB : B ≤ w.heap.size) (h2 : Rd w B2 A2 n2 c2 lots) (h3 : Rd w B3 A3 n3 c3 az) (hB2 : B2 ≤ w.heap.size) (hB3 : B3 ≤ w.heap.size) :
    Calls Try.prog 14 #[chartV W H (.slice A n c), .int .i64 color, .slice A2 n2 c2, .slice A3 n3 c3] w (Out w (.tuple #[.bool (isAsg W H xs color lots az), .bool (askOk W H xs color lots)])) := by
  cases hask : askOk W H xs color lots with
  | false =>
    have hb0 : Below w.heap.size w (w.alloc (.cells #[.int .i64 W, .int .i64 H, .slice A n c] 26)) := (Below.refl _ _).alloc (Nat.le_refl _) _
    have h' := h.alloc hB (.cells #[.int .i64 W, .int .i64 H, .slice A n c] 26)
    have h2' := h2.alloc hB2 (.cells #[.int .i64 W, .int .i64 H, .slice A n c] 26)
    have x0 := Blk.new w #[.int .i64 W, .int .i64 H, .slice A n c] 26
    have e0 := x0.cell 0
    have e1 := x0.cell 1
    have e2 := x0.cell 2
    have HXE := Lib.hid (show isAsg W H xs color lots az = false by rw [isAsg, hask]; rfl)
    go_enter Try.func14, Try.ntmps14
    go_upto_region 1 with fail
    generalize w.alloc (.cells #[.int .i64 W, .int .i64 H, .slice A n c] 26) = w0 at *
    have hz0 := hb0.size
    go_wp2_with fail
    refine (l12Asked_any W H A n c B xs color A2 n2 c2 B2 lots _ h' (by omega) h2' (by omega)).mono ?_
    rintro e w1 ⟨rfl, hb1⟩
    rw [hask]
    have HB := Lib.hid (hb0.trans (hb1.mono hz0))
    clear hb0 hb1 x0 e0 e1 e2
    go_wp2
    go_ret2
    rw [HXE.out]
    exact ⟨rfl, HB.out⟩
  | true =>
    have hs1 : sizesOk W H xs color = true := by simp only [askOk, Bool.and_eq_true] at hask; exact hask.1
    have hlo : lotsB lots = true := by simp only [askOk, Bool.and_eq_true] at hask; exact hask.2
    have hg : goodB W H xs = true := by simp only [sizesOk, Bool.and_eq_true] at hs1; exact hs1.1
    obtain ⟨hs64, hsr⟩ := sizesX_rng (W := W) (H := H) (xs := xs) (color := color)
    obtain ⟨m, k, b, off, rfl, rfl, rfl, rfl, hm, hm8, hk1, hk8, hl, h64, hN, _⟩ := good_open hg h
    rw [sizesX_yes hs1] at hs64 hsr
    have x0 := Cx.start (m := m) (k := k) h hB
    have h2' := h2.alloc hB2 (.cells #[.int .i64 m, .int .i64 k, .slice (some ⟨b, off, none⟩) xs.length c] 26)
    have HXE := Lib.hid (show isAsg m k xs color lots az = enoughB (sizesL m xs color) lots az by rw [isAsg, hask, sizesX_yes hs1]; rfl)
    have hn3 := h3.len_lt
    clear h
    go_enter Try.func14, Try.ntmps14
    go_upto_region 1 with fail
    generalize w.alloc (.cells #[.int .i64 m, .int .i64 k, .slice (some ⟨b, off, none⟩) xs.length c] 26) = w0 at *
    have e0 := x0.c0
    have e1 := x0.c1
    have e2 := x0.c2
    have hz0 := x0.sz
    go_wp2_with fail
    refine (l12Asked_any m k _ _ c B xs color A2 n2 c2 B2 lots _ x0.rd (by omega) h2' (by omega)).mono ?_
    rintro e w1 ⟨rfl, hb1⟩
    rw [hask]
    have x1 := x0.all hb1
    clear hb1 e0 e1 e2 x0 h2' hz0
    have e0 := x1.c0
    have e1 := x1.c1
    have e2 := x1.c2
    have hz1 := x1.sz
    go_wp2_with fail
    refine (l12Color_any m k b off c B xs color _ x1.rd (by omega) hm hm8 hk1 hk8 hl hN).mono ?_
    rintro e w2 ⟨A1, c1, rfl, oS, hb2⟩
    have HB := Lib.hid (x1.all hb2).bel
    have h22 := h2.all HB.out hB2
    have h32 := h3.all HB.out hB3
    have hz2 := HB.out.size
    clear hb2 x1 e0 e1 e2
    obtain ⟨S, hS⟩ : ∃ S, sizesL m xs color = S := ⟨_, rfl⟩
    rw [hS] at oS hs64 hsr HXE ⊢
    obtain rfl := h3.len
    by_cases hln : az.length = S.length
    · have hnb : ((az.length : Int) == (S.length : Int)) = true := by simp; omega
      have HE2 := Lib.hid (show enoughB S lots az = fitG S lots az by rw [enoughB, decide_eq_true hln]; rfl)
      have HLN := Lib.hid hln
      clear hln
      go_wp2_with fail
      refine (l12Fits_any A1 A2 A3 S.length c1 w2.heap.size n2 c2 B2 az.length c3 B3 S lots az _ oS.rd h22 h32 (Nat.le_refl _) (by omega) (by omega) hlo hs64 hsr).mono ?_
      rintro e w3 ⟨rfl, hb3⟩
      have HB3 := Lib.hid (HB.out.trans (hb3.mono hz2))
      clear hb3
      go_wp2
      go_ret2
      rw [HXE.out, HE2.out]
      exact ⟨rfl, HB3.out⟩
    · have hnb : ((az.length : Int) == (S.length : Int)) = false := by simp; omega
      have HE2 := Lib.hid (show enoughB S lots az = false by rw [enoughB, decide_eq_false hln]; rfl)
      go_wp2
      go_ret2
      rw [HXE.out, HE2.out]
      exact ⟨rfl, HB.out⟩
end Go.Proofs.Ytpnmnkdnlajfiaa
