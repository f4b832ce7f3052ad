/- The walks of what tests lots and assignments, both texts. Condition: the sizes are those of a chart, the lots are valid where the function asks so. -/
import Derived.Test.YtpnmnkdnlajfiaaCloneI
import Derived.Test.YtpnmnkdnlajfiaaPickI
import Derived.Test.YtpnmnkdnlajfiaaFill
namespace Go.Proofs.Ytpnmnkdnlajfiaa
open Go.RowKit

def lotB (x : Int) : Bool := decide (1 ≤ x ∧ x ≤ 100)
def lotsB (lots : List Int) : Bool := inB lots.length 1 6 && lots.all lotB
theorem lotsB_yes {lots : List Int} (h : lotsB lots = true) : 1 ≤ lots.length ∧ lots.length ≤ 6 ∧ ∀ x ∈ lots, 1 ≤ x ∧ x ≤ 100 := by
  simp only [lotsB, Bool.and_eq_true, List.all_eq_true] at h
  have h1 := inB_yes h.1
  exact ⟨by omega, by omega, fun x hx => of_decide_eq_true (h.2 x hx)⟩
theorem lots_min_max {lots : List Int} (h : 0 < lots.length) : (decide (1 ≤ Lib.minOf lots) && decide (Lib.maxOf lots ≤ 100)) = lots.all lotB := by
  obtain ⟨h1, i, hi, hii⟩ := minOf_prop lots lots.length h (Nat.le_refl _)
  obtain ⟨h2, j, hj, hjj⟩ := maxOf_prop lots lots.length h (Nat.le_refl _)
  rw [List.take_length] at h1 hii h2 hjj
  rw [Bool.eq_iff_iff]
  simp only [Bool.and_eq_true, decide_eq_true_eq, List.all_eq_true, lotB]
  constructor
  · rintro ⟨g1, g2⟩ x hx
    obtain ⟨q, hq, rfl⟩ := List.mem_iff_getElem.1 hx
    have e1 := h1 q hq
    have e2 := h2 q hq
    rw [getD_at hq] at e1 e2
    omega
  · intro g
    rw [getD_at hi] at hii
    rw [getD_at hj] at hjj
    have e1 := g _ (List.getElem_mem hi)
    have e2 := g _ (List.getElem_mem hj)
    omega
set_option maxRecDepth 100000 in
set_option maxHeartbeats 1000000 in
theorem areLots_any (A : Option Addr) (n c B : Nat) (lots : List Int) (w : World) (h : Rd w B A n c lots) :
    Calls Try.prog 28 #[.slice A n c] w fun e w' => e = .returned (.bool (lotsB lots)) ∧ w = w' := by
  have hln := h.len_lt
  have hn := h.len
  obtain ⟨d, hd⟩ : ∃ d, inB (n : Int) 1 6 = d := ⟨_, rfl⟩
  cases d with
  | false =>
    have HX := Lib.hid (show lotsB lots = false by rw [lotsB, hn, hd]; rfl)
    go_enter Try.func28, Try.ntmps28
    go_wp2_with fail
    refine (isBetween_any (n : Int) 1 6 w).mono ?_
    rintro e w' ⟨rfl, rfl⟩
    rw [hd]
    go_wp2
    go_ret
    exact ⟨ret_bool HX.out.symm, rfl⟩
  | true =>
    have hb := inB_yes hd
    have hn0 : 0 < n := by omega
    obtain ⟨mn, hmn⟩ : ∃ mn, Lib.minOf lots = mn := ⟨_, rfl⟩
    obtain ⟨mx, hmx⟩ : ∃ mx, Lib.maxOf lots = mx := ⟨_, rfl⟩
    have HX := Lib.hid (show lotsB lots = (decide (1 ≤ mn) && decide (mx ≤ 100)) by rw [lotsB, hn, hd, ← lots_min_max (by omega), hmn, hmx]; rfl)
    have hmin := (minI_any A n c B lots w h hn0)
    have hmax := (maxI_any A n c B lots w h hn0)
    rw [hmn] at hmin
    rw [hmx] at hmax
    clear hmn hmx
    go_enter Try.func28, Try.ntmps28
    go_wp2_with fail
    refine (isBetween_any (n : Int) 1 6 w).mono ?_
    rintro e w' ⟨rfl, rfl⟩
    rw [hd]
    by_cases h1 : 1 ≤ mn
    · by_cases h2 : mx ≤ 100
      · go_wp2_with (first | (go_at_call 52; (with_reducible refine (hmin).mono ?_); rintro e w' ⟨rfl, rfl⟩) | (go_at_call 53; (with_reducible refine (hmax).mono ?_); rintro e w' ⟨rfl, rfl⟩))
        go_ret
        exact ⟨ret_bool (by rw [HX.out]; simp [h1, h2]), rfl⟩
      · go_wp2_with (first | (go_at_call 52; (with_reducible refine (hmin).mono ?_); rintro e w' ⟨rfl, rfl⟩) | (go_at_call 53; (with_reducible refine (hmax).mono ?_); rintro e w' ⟨rfl, rfl⟩))
        go_ret
        exact ⟨ret_bool (by rw [HX.out]; simp; omega), rfl⟩
    · go_wp2_with (first | (go_at_call 52; (with_reducible refine (hmin).mono ?_); rintro e w' ⟨rfl, rfl⟩) | (go_at_call 53; (with_reducible refine (hmax).mono ?_); rintro e w' ⟨rfl, rfl⟩))
      go_ret
      exact ⟨ret_bool (by rw [HX.out]; simp; omega), rfl⟩
set_option maxRecDepth 100000 in
set_option maxHeartbeats 1000000 in
theorem l12Lots_any (A : Option Addr) (n c B : Nat) (lots : List Int) (w : World) (h : Rd w B A n c lots) :
    Calls Try.prog 45 #[.slice A n c] w fun e w' => e = .returned (.bool (lotsB lots)) ∧ w = w' := by
  have hln := h.len_lt
  obtain rfl := h.len
  go_enter Try.func45, Try.ntmps45
  go_wp2
  go_loopw [3] (fun s3 wr => ∃ k : Nat, k ≤ lots.length ∧ s3 = .int .i64 k ∧ Hid ((lots.take k).all lotB = true) ∧ wr = w) (fun s3 _ => lots.length - (intOf s3).toNat)
  case atStart => exact ⟨0, Nat.zero_le _, rfl, Lib.hid (by simp), rfl⟩
  case round =>
    obtain ⟨k, hk, rfl, HALL, rfl⟩ := hrel
    by_cases hlt : k < lots.length
    · obtain ⟨b, off, x, rfl, _, hc, _, _, HXx⟩ := h.at hlt
      obtain ⟨d, hd⟩ : ∃ d, inB x 1 100 = d := ⟨_, rfl⟩
      go_wp2_with fail
      refine (l1In_any x 1 100 _).mono ?_
      rintro e w' ⟨rfl, rfl⟩
      rw [hd]
      cases d with
      | true =>
        have HA := Lib.hid (all_step HALL.out hlt HXx.out (show lotB x = true from hd))
        go_wp2
        go_roundw
        case rel => exact ⟨k + 1, hlt, by go_num, HA, by first | rfl | trivial⟩
        case measure => simp [intOf]; omega
      | false =>
        have HX := Lib.hid (show lotsB lots = false by rw [lotsB, all_bad hlt HXx.out (show lotB x = false from hd)]; simp)
        go_wp2
        go_ret
        exact ⟨ret_bool HX.out.symm, rfl⟩
    · have HX := Lib.hid (show lotsB lots = inB lots.length 1 6 by rw [lotsB, all_end HALL.out (by omega)]; simp)
      go_wp2_with ((go_at_call 55; (with_reducible refine (l1In_any _ _ _ _).mono ?_); rintro e w' ⟨rfl, rfl⟩))
      go_ret
      exact ⟨ret_bool HX.out.symm, rfl⟩
/-- The lots are enough for the areas. -/
def fitG : List Int → List Int → List Int → Bool
  | _, _, [] => true
  | [], _, _ :: _ => false
  | s :: ss, left, k :: az => inB k 0 ((left.length : Int) - 1) && decide (s ≤ left.getD k.toNat 0) && fitG ss (left.set k.toNat (left.getD k.toNat 0 - s)) az
theorem fitG_end {sizes left az : List Int} {i : Nat} (h : az.length ≤ i) : fitG (sizes.drop i) left (az.drop i) = true := by
  rw [List.drop_of_length_le h]; simp [fitG]
theorem fitG_out {sizes left az : List Int} {i : Nat} (h : i < az.length) (hs : sizes.length ≤ i) : fitG (sizes.drop i) left (az.drop i) = false := by
  rw [List.drop_of_length_le hs, List.drop_eq_getElem_cons h]; rfl
theorem fitG_step {sizes left az : List Int} {i : Nat} {s k : Int} (h : i < az.length) (hs : i < sizes.length) (es : sizes.getD i 0 = s) (ek : az.getD i 0 = k) :
    fitG (sizes.drop i) left (az.drop i) = (inB k 0 ((left.length : Int) - 1) && decide (s ≤ left.getD k.toNat 0) && fitG (sizes.drop (i + 1)) (left.set k.toNat (left.getD k.toNat 0 - s)) (az.drop (i + 1))) := by
  rw [List.drop_eq_getElem_cons h, List.drop_eq_getElem_cons hs, fitG, ← getD_at h, ← getD_at hs, es, ek]
set_option maxRecDepth 100000 in
set_option maxHeartbeats 4000000 in
theorem l12Fits_any (A1 A2 A3 : Option Addr) (n1 c1 B1 n2 c2 B2 n3 c3 B3 : Nat) (sizes lots az : List Int) (w : World) (h1 : Rd w B1 A1 n1 c1 sizes) (h2 : Rd w B2 A2 n2 c2 lots) (h3 : Rd w B3 A3 n3 c3 az) (hB1 : B1 ≤ w.heap.size) (hB2 : B2 ≤ w.heap.size) (hB3 : B3 ≤ w.heap.size)
    (hl : lotsB lots = true) (hs : sizes.length ≤ 64) (hsr : ∀ y ∈ sizes, 0 ≤ y ∧ y ≤ 64) :
    Calls Try.prog 32 #[.slice A1 n1 c1, .slice A2 n2 c2, .slice A3 n3 c3] w (Out w (.bool (fitG sizes lots az))) := by
  obtain ⟨hl1, hl6, hlr⟩ := lotsB_yes hl
  have hn3 := h3.len_lt
  obtain rfl := h1.len
  obtain rfl := h2.len
  obtain rfl := h3.len
  have HSR := Lib.hid hsr
  have HLR := Lib.hid hlr
  obtain ⟨i0, hi, hz0, hz1, hz2⟩ := info_parts info_int
  clear hl
  go_enter Try.func32, Try.ntmps32
  go_wp2_with (at_make; refine wpList_make_full _ rfl _ _ 24 rfl w.heap.size 3 i0 (.int .i64 0) 1 Try.underlying24 hi hz0 hz1 _ _ _ _ lots.length rfl rfl rfl rfl (by rw [hz2]; omega) (by unfold maxLen; omega) (by omega) ?_)
  intro w2 hown0 hg0
  have hO : Own w2 w.heap.size (.slice (some ⟨w.heap.size, 0, none⟩) lots.length lots.length) (List.replicate lots.length 0) := by
    refine ⟨?_, fun y hy => by rw [List.mem_replicate] at hy; rw [hy.2]; exact ⟨by omega, by omega⟩⟩
    have e : (madeCells #[Value.int .i64 0] lots.length).toList = (List.replicate lots.length (0 : Int)).map (Value.int .i64) := by rw [toList_madeCells_one, List.map_replicate]
    rw [← e, List.length_replicate]; exact hown0
  have hb2 : Below w.heap.size w w2 := (Below.refl _ _).grown hg0 (Nat.le_refl _) (fun q hq => by cases hq)
  have HE := Lib.hid (show fitG sizes lots az = fitG (sizes.drop 0) lots (az.drop 0) by simp)
  have HU := Lib.hid (show ∀ q, q < lots.length → lots.getD q 0 = lots.getD q 0 - (List.replicate lots.length (0 : Int)).getD q 0 ∧ 0 ≤ (List.replicate lots.length (0 : Int)).getD q 0 ∧ 0 ≤ lots.getD q 0 from fun q hq => by
    have e : (List.replicate lots.length (0 : Int)).getD q 0 = 0 := by rw [List.getD_eq_getElem?_getD, List.getElem?_replicate, if_pos hq]; rfl
    have := hlr _ (List.getElem_mem hq)
    rw [e, getD_at hq]
    omega)
  obtain ⟨U0, hU0⟩ : ∃ U : List Int, List.replicate lots.length 0 = U := ⟨_, rfl⟩
  have hUl : U0.length = lots.length := by rw [← hU0]; simp
  rw [hU0] at hO HU
  replace HU := Lib.hid (show lots.length = lots.length ∧ U0.length = lots.length ∧ _ from ⟨rfl, hUl, HU.out⟩)
  clear hUl
  clear hown0 hg0 hU0 hsr hlr
  obtain ⟨G, hG⟩ : ∃ G, w.heap.size = G := ⟨_, rfl⟩
  have hGw : w.heap.size ≤ G := by omega
  rw [hG] at hO ⊢
  clear hG
  go_wp2
  go_loopw [8] (fun s8 wr => ∃ (i : Nat) (left U : List Int), i ≤ az.length ∧ s8 = .int .i64 i ∧ Hid (fitG sizes lots az = fitG (sizes.drop i) left (az.drop i)) ∧ Hid (left.length = lots.length ∧ U.length = lots.length ∧ ∀ q, q < lots.length → left.getD q 0 = lots.getD q 0 - U.getD q 0 ∧ 0 ≤ U.getD q 0 ∧ 0 ≤ left.getD q 0) ∧ Own wr G (.slice (some ⟨G, 0, none⟩) lots.length lots.length) U ∧ Hid (Below w.heap.size w wr)) (fun s8 _ => az.length - (intOf s8).toNat)
  case atStart => exact ⟨0, lots, U0, Nat.zero_le _, rfl, HE, Lib.hid ⟨rfl, HU.out.2⟩, hO, hb2⟩
  case round =>
    clear HE HU hO hb2
    obtain ⟨i, left, U, hi, rfl, HE, HU, hO, HB⟩ := hrel
    by_cases hlt : i < az.length
    · have R3 := h3.all HB.out hB3
      obtain ⟨b3, o3, kk, rfl, _, hck, hk1, hk2, HK⟩ := R3.at hlt
      obtain ⟨d, hd⟩ : ∃ d, inB kk 0 ((lots.length : Int) - 1) = d := ⟨_, rfl⟩
      have hw1 : IntKind.i64.wrap ((lots.length : Int) - 1) = (lots.length : Int) - 1 := IntWalk.i64_in _ (by omega)
      have hii : (i : Int) < (az.length : Int) := by omega
      clear R3
      cases d with
      | false =>
        have HX := Lib.hid (show fitG sizes lots az = false by
          rw [HE.out]
          by_cases hs1 : i < sizes.length
          · rw [fitG_step hlt hs1 rfl HK.out, HU.out.1, hd]; rfl
          · exact fitG_out hlt (by omega))
        go_wp2_with ((go_at_call 55; (with_reducible refine (l1In_any _ _ _ _).mono ?_); rintro e w' ⟨rfl, rfl⟩))
        go_ret
        exact ⟨ret_bool HX.out.symm, HB.out⟩
      | true =>
        have hkb := inB_yes hd
        obtain ⟨q, rfl⟩ := Int.eq_ofNat_of_zero_le hkb.1
        have hq : q < lots.length := by omega
        by_cases hs1 : i < sizes.length
        · have R1 := h1.all HB.out hB1
          have R2 := h2.all HB.out hB2
          obtain ⟨b1, o1, s, rfl, _, hcs, hsa, hsb, HS⟩ := R1.at hs1
          obtain ⟨b2, o2, lv, rfl, _, hcl, hla, hlb, HL⟩ := R2.at hq
          have hsr : 0 ≤ s ∧ s ≤ 64 := by rw [← HS.out, getD_at hs1]; exact HSR.out _ (List.getElem_mem hs1)
          have hlr : 1 ≤ lv ∧ lv ≤ 100 := by rw [← HL.out, getD_at hq]; exact HLR.out _ (List.getElem_mem hq)
          obtain ⟨u, hu⟩ : ∃ u, U.getD q 0 = u := ⟨_, rfl⟩
          have eu := own_at hO (j := q) (by rw [HU.out.2.1]; exact hq) hu
          obtain ⟨g1, g2, g3⟩ := HU.out.2.2 q hq
          rw [HL.out, hu] at g1
          rw [hu] at g2
          rw [g1] at g3
          have HSTEP := Lib.hid (show fitG sizes lots az = (decide (s ≤ lv - u) && fitG (sizes.drop (i + 1)) (left.set q (lv - u - s)) (az.drop (i + 1))) by
            rw [HE.out, fitG_step hlt hs1 HS.out HK.out, HU.out.1, hd, Int.toNat_natCast, g1]; rfl)
          have hw2 : IntKind.i64.wrap (u + s) = u + s := IntWalk.i64_in _ (by omega)
          have HUU := Lib.hid hu
          have HUq := Lib.hid g1
          obtain ⟨hfz, hO', hgr⟩ := own_put hO q (u + s) ⟨by omega, by omega⟩
          have hqI : (q : Int) < (lots.length : Int) := by omega
          have hiI : (i : Int) < (sizes.length : Int) := by omega
          clear g1 hu R1 R2
          have hsd : decide (sizes.length ≤ i) = false := by simp; omega
          have hbw2 := Lib.hid (HB.out.setCell (p := ⟨G, q, none⟩) hGw (.int .i64 (u + s)))
          have hlI : I64 lv := ⟨by omega, by omega⟩
          have e2 := (h2.all HB.out hB2)
          clear HB
          go_upto_region 8 with ((go_at_call 55; (with_reducible refine (l1In_any _ _ _ _).mono ?_); rintro e w' ⟨rfl, rfl⟩))
          go_region
          have hO2 := hO'.all (show Below (wr.setCell ⟨G, q, none⟩ (.int .i64 (u + s))).heap.size _ (wr.setCell ⟨G, q, none⟩ (.int .i64 (u + s))).drew from ⟨rfl, rfl, rfl, Nat.le_refl _, fun _ _ => rfl⟩)
          have HB2 := Lib.hid (belowD hbw2.out)
          have R2 := h2.all HB2.out hB2
          have eu2 := own_at hO2 (j := q) (by rw [List.length_set, HU.out.2.1]; exact hq) (getD_set_self (by rw [HU.out.2.1]; exact hq))
          obtain ⟨_, _, lv', e', _, hcl2, _, _, HL2⟩ := R2.at hq
          cases e'
          rw [show lv' = lv from HL2.out.symm.trans HL.out] at hcl2
          clear hO' hbw2 R2 e2 hcs hcl eu hfz hgr hck HL2 hO
          generalize (wr.setCell ⟨G, q, none⟩ (.int .i64 (u + s))).drew = W2 at *
          by_cases hgt : lv < u + s
          · have HX := Lib.hid (show fitG sizes lots az = false by rw [HSTEP.out, decide_eq_false (by omega)]; rfl)
            go_wp2
            go_quiet (fail)
            have HB3 := Lib.hid (belowN HB2.out nq)
            go_wp2
            go_ret
            exact ⟨ret_bool HX.out.symm, HB3.out⟩
          · have HE2 := Lib.hid (show fitG sizes lots az = fitG (sizes.drop (i + 1)) (left.set q (lv - u - s)) (az.drop (i + 1)) by rw [HSTEP.out, decide_eq_true (by omega)]; simp)
            have HU2 := Lib.hid (show (left.set q (lv - u - s)).length = lots.length ∧ (U.set q (u + s)).length = lots.length ∧ ∀ z, z < lots.length → (left.set q (lv - u - s)).getD z 0 = lots.getD z 0 - (U.set q (u + s)).getD z 0 ∧ 0 ≤ (U.set q (u + s)).getD z 0 ∧ 0 ≤ (left.set q (lv - u - s)).getD z 0 from
              ⟨by rw [List.length_set]; exact HU.out.1, by rw [List.length_set]; exact HU.out.2.1, fun z hz => by
                by_cases e : z = q
                · subst e
                  rw [getD_set_self (by rw [HU.out.1]; exact hz), getD_set_self (by rw [HU.out.2.1]; exact hz), HL.out]
                  omega
                · rw [getD_set_ne e, getD_set_ne e]
                  exact HU.out.2.2 z hz⟩)
            have hgd : decide (lv < u + s) = false := by simp; omega
            clear HE HU HSTEP
            go_wp2
            go_quiet (fail)
            have HB3 := Lib.hid (belowN HB2.out nq)
            have hO3 := hO2.drewN nq
            clear HB2 hO2 eu2 hcl2
            generalize W2.drewN nq = W3 at *
            go_wp2
            go_roundw
            case rel => exact ⟨i + 1, _, _, hlt, by go_num, HE2, HU2, hO3, HB3⟩
            case measure => simp [intOf]; omega
        · have hsd : decide (sizes.length ≤ i) = true := by simp; omega
          have HX := Lib.hid (show fitG sizes lots az = false by rw [HE.out]; exact fitG_out hlt (by omega))
          go_wp2_with ((go_at_call 55; (with_reducible refine (l1In_any _ _ _ _).mono ?_); rintro e w' ⟨rfl, rfl⟩))
          go_ret
          exact ⟨ret_bool HX.out.symm, HB.out⟩
    · have HX := Lib.hid (show fitG sizes lots az = true by rw [HE.out]; exact fitG_end (by omega))
      go_wp2
      go_ret
      exact ⟨ret_bool HX.out.symm, HB.out⟩
end Go.Proofs.Ytpnmnkdnlajfiaa
