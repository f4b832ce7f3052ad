/- The walks of isShift, partnersAt and isDifference. Condition: valid charts, a valid shift. -/
import Derived.Test.YtgkflgfjbaobcaaTwoBox
namespace Go.Proofs.Ytgkflgfjbaobcaa
open Go.RowKit

def parF : Flat PairR := { t := 69, k := 2, enc := fun s => [.int .i64 s.f0, .int .i64 s.f1], ok := PairR.ok, len := fun _ => rfl, one := fun s v h => by simp only [List.mem_cons, List.not_mem_nil, or_false] at h; rcases h with rfl | rfl <;> rfl }
theorem Par_at {w : World} {B n c j : Nat} {A : Option Addr} {xs : List PairR} (h : RdF parF w B A n c xs) (hj : j < n) :
    ∃ b off s, A = some ⟨b, off, none⟩ ∧ b < B ∧ s.ok ∧ Hid (xs[j]? = some s) ∧ w.cell? ⟨b, off + j * 2, none⟩ = some (.int .i64 s.f0) ∧ w.cell? ⟨b, off + j * 2 + 1, none⟩ = some (.int .i64 s.f1) := by
  obtain ⟨b, off, s, e, hb, ho, hx, hc⟩ := h.at hj
  have hc' := hc
  unfold Hid at hc'
  exact ⟨b, off, s, e, hb, ho, hx, hc' 0 _ rfl, hc' 1 _ rfl⟩
theorem info_Par : (Try.prog.info? 69).map (fun i => (i.zero, i.size, i.bytes)) = some (some (.agg #[.int .i64 0, .int .i64 0]), 2, 16) := by kernel_rfl
theorem place_facts {m i : Nat} {d a : Int} (hm : 1 ≤ m) (hi : i < 64) (hd : -2 ≤ d ∧ d ≤ 2) (ha : -2 ≤ a ∧ a ≤ 2) :
    ∃ u v : Nat, Hid (i / m = u) ∧ Hid (i % m = v) ∧ u ≤ 64 ∧ v ≤ 64 ∧ ¬ (m : Int) = 0 ∧ Int.tdiv (i : Int) (m : Int) = (u : Int) ∧ Int.tmod (i : Int) (m : Int) = (v : Int) ∧ wrap64 (u : Int) = (u : Int) ∧ IntKind.i64.wrap (u : Int) = (u : Int) ∧
      IntKind.i64.wrap ((u : Int) + d) = (u : Int) + d ∧ IntKind.i64.wrap ((v : Int) + a) = (v : Int) + a ∧ I64 ((u : Int) + d) ∧ I64 ((v : Int) + a) := by
  have hal : i / m ≤ 64 := Nat.le_trans (Nat.div_le_self _ _) (by omega)
  have hbl : i % m ≤ 64 := Nat.le_trans (Nat.mod_le _ _) (by omega)
  have hq : Int.tdiv (i : Int) (m : Int) = ((i / m : Nat) : Int) := rfl
  have hr : Int.tmod (i : Int) (m : Int) = ((i % m : Nat) : Int) := rfl
  refine ⟨i / m, i % m, rfl, rfl, hal, hbl, by omega, hq, hr, ?_⟩
  clear hq hr
  generalize i / m = u at *
  generalize i % m = v at *
  exact ⟨IntWalk.wrap64_in _ (by omega), IntWalk.i64_in _ (by omega), IntWalk.i64_in _ (by omega), IntWalk.i64_in _ (by omega), ⟨by omega, by omega⟩, ⟨by omega, by omega⟩⟩
/-- What a call leaves that answers a slice of partners of its own. -/
def OwnPars (w : World) (L : List PairR) (e : Ending) (w' : World) : Prop := ∃ A c, e = .returned (.slice A L.length c) ∧ OwnF parF w' w.heap.size (.slice A L.length c) L ∧ Below w.heap.size w w'
set_option maxRecDepth 100000 in
set_option maxHeartbeats 400000 in
theorem isShift_any (d a : Int) (w : World) : Calls Try.prog 34 #[.int .i64 d, .int .i64 a] w fun e w' => e = .returned (.bool (shB d a)) ∧ w = w' := by
  obtain ⟨b1, h1⟩ : ∃ b1, inB d (-2) 2 = b1 := ⟨_, rfl⟩
  obtain ⟨b2, h2⟩ : ∃ b2, inB a (-2) 2 = b2 := ⟨_, rfl⟩
  have HE := Lib.hid (show shB d a = (b1 && b2) by rw [← h1, ← h2]; rfl)
  cases b1 with
  | true =>
    go_enter Try.func34, Try.ntmps34
    go_wp2_with (go_at_call 47; (with_reducible refine (isBetween_any _ _ _ _).mono ?_); rintro e w' ⟨rfl, rfl⟩)
    go_ret
    exact ⟨ret_bool (by rw [HE.out]; rfl), rfl⟩
  | false =>
    go_enter Try.func34, Try.ntmps34
    go_wp2_with (go_at_call 47; (with_reducible refine (isBetween_any _ _ _ _).mono ?_); rintro e w' ⟨rfl, rfl⟩)
    go_ret
    exact ⟨ret_bool (by rw [HE.out]; rfl), rfl⟩
set_option maxRecDepth 100000 in
set_option maxHeartbeats 8000000 in
theorem partnersAt_any (m k b off c pm pk b' off' c' : Nat) (xs ys : List Int) (d a : Int) (w : World) (R : Rd w w.heap.size (some ⟨b, off, none⟩) xs.length c xs) (S : Rd w w.heap.size (some ⟨b', off', none⟩) ys.length c' ys)
    (hm : 1 ≤ m) (hm8 : m ≤ 8) (h64 : xs.length ≤ 64) (hp1 : 1 ≤ pm) (hp8 : pm ≤ 8) (hq1 : 1 ≤ pk) (hq8 : pk ≤ 8) (hs : shB d a = true) :
    Calls Try.prog 35 #[chartV m k (.slice (some ⟨b, off, none⟩) xs.length c), chartV pm pk (.slice (some ⟨b', off', none⟩) ys.length c'), .agg #[.int .i64 d, .int .i64 a]] w (OwnPars w (pairsTo m pm pk d a xs.length)) := by
  obtain ⟨⟨d1, d2⟩, a1, a2⟩ := shB_yes hs
  have hP1 : 1 ≤ (pm : Int) ∧ (pm : Int) ≤ 8 := by omega
  have hP2 : 1 ≤ (pk : Int) ∧ (pk : Int) ≤ 8 := by omega
  have x0 := (C2.start (m := m) (k := k) (pm := pm) (pk := pk) R S).alloc (.cells #[.int .i64 d, .int .i64 a] 68)
  have z0 := (Blk.new ((w.alloc (chB m k b off xs.length c)).alloc (chB pm pk b' off' ys.length c')) #[.int .i64 d, .int .i64 a] 68).at_ (q := w.heap.size + 2) (by simp)
  clear R S hs
  go_enter Try.func35, Try.ntmps35
  go_wp2
  generalize ((w.alloc (chB m k b off xs.length c)).alloc (chB pm pk b' off' ys.length c')).alloc (.cells #[.int .i64 d, .int .i64 a] 68) = W0 at *
  have e2 := x0.a2
  go_wp2
  go_loopw [7, 14] (fun s7 s14 wr => ∃ (i : Nat) (A : Option Addr) (c9 : Nat) (L : List PairR), i ≤ xs.length ∧ s14 = .int .i64 i ∧ s7 = .slice A L.length c9 ∧ Hid (L = pairsTo m pm pk d a i) ∧ OwnF parF wr (w.heap.size + 3) (.slice A L.length c9) L ∧ w.heap.size + 3 ≤ wr.heap.size ∧
      C2 w m k b off c xs pm pk b' off' c' ys wr ∧ Blk wr (w.heap.size + 2) 68 #[.int .i64 d, .int .i64 a]) (fun _ s14 _ => xs.length - (intOf s14).toNat)
  case atStart => exact ⟨0, none, 0, [], Nat.zero_le _, rfl, rfl, rfl, OwnF.nil _ _ _, z0.lt, x0, z0⟩
  case round =>
    clear x0 z0 e2
    obtain ⟨i, A, c9, L, hi, rfl, rfl, HL, ho, hz, x1, z1⟩ := hrel
    by_cases hlt : i < xs.length
    · have hL := Lib.hid (show L.length ≤ i by rw [HL.out, pairsTo_len]; exact parTo_len)
      have HPE := Lib.hid (ptn_eq (m := m) (pm := pm) (pk := pk) (p := i) (d := d) (a := a))
      obtain ⟨q, hq0⟩ : ∃ q, ptn m pm d a i = q := ⟨_, rfl⟩
      have HPO := Lib.hid (show pairOf m pm d a i = ⟨(i : Int), (q : Int)⟩ by rw [← hq0]; rfl)
      obtain ⟨g, hg0⟩ : ∃ g, hasP m pm pk d a i = g := ⟨_, rfl⟩
      have HG := Lib.hid hg0
      have HW := Lib.hid (show withinB (pm : Int) (pk : Int) (((i / m : Nat) : Int) + d) (((i % m : Nat) : Int) + a) 1 1 = g from hg0)
      rw [hg0, hq0] at HPE
      obtain ⟨u, v, hu, hv, hal, hbl, hm0, hq, hr, hwa, hwa', hw1, hw2, hI1, hI2⟩ := place_facts (i := i) hm (Nat.lt_of_lt_of_le hlt h64) ⟨d1, d2⟩ ⟨a1, a2⟩
      rw [hu.out, hv.out] at HPE HW
      clear hu hv
      have e0 := x1.a0
      have f0 := z1.cell 0
      have f1 := z1.cell 1
      go_upto_region 5 with fail
      go_quiet (fail)
      have x2 := x1.drewN nq
      have z2 := z1.all (low_drewN wr nq)
      have o2 := ho.drewN nq
      have hz2 : w.heap.size + 3 ≤ (wr.drewN nq).heap.size := hz
      clear e0 f0 f1 x1 z1 ho hz
      generalize wr.drewN nq = W2 at *
      have e0 := x2.d0
      have e1 := x2.d1
      have e2 := x2.d2
      go_wp2_with fail
      refine (isWithin_any (pm : Int) (pk : Int) ((u : Int) + d) ((v : Int) + a) 1 1 _ W2 hP1 hP2 hI1 hI2).mono ?_
      rintro e w3 ⟨rfl, hb3⟩
      rw [HW.out]
      have x3 := x2.all hb3
      have z3 := z2.all hb3
      have o3 := o2.all hb3
      have hz3 := Nat.le_trans hz2 hb3.size
      clear x2 z2 o2 hz2 hb3 e0 e1 e2
      have e0 := x3.d0
      cases g with
      | true =>
        obtain ⟨hy, hyl, h0r, h0c, h1r, h1c⟩ := HPE.out rfl
        have hyb : q ≤ 64 := by have : pm * pk ≤ 8 * 8 := Nat.mul_le_mul hp8 hq8; omega
        have HLN := Lib.hid (show L ++ [⟨(i : Int), (q : Int)⟩] = pairsTo m pm pk d a (i + 1) by rw [pairsTo_yes HG.out, HPO.out, HL.out])
        have hw4 : wrap64 (((u : Int) + d) * (pm : Int) + ((v : Int) + a)) = (q : Int) := by rw [hy]; exact IntWalk.wrap64_in _ (by omega)
        have hmul : ((u : Int) + d) * (pm : Int) = (q : Int) - ((v : Int) + a) := by omega
        have hw3 : wrap64 (((u : Int) + d) * (pm : Int)) = ((u : Int) + d) * (pm : Int) := IntWalk.wrap64_in _ (by omega)
        have hl30 : L.length + 1 ≤ 1073741824 := by have := hL.out; omega
        have hbd := o3.bd
        have hr1 := RdF.lit (F := parF) (w := w3) (cs := #[.int .i64 (i : Int), .int .i64 (q : Int)]) (a := ⟨(i : Int), (q : Int)⟩) rfl (ok_small (by omega) (by omega))
        have oA := o3.alloc (.cells #[.int .i64 (i : Int), .int .i64 (q : Int)] parF.t)
        have xA := x3.alloc (.cells #[.int .i64 (i : Int), .int .i64 (q : Int)] parF.t)
        have zA := z3.alloc (.cells #[.int .i64 (i : Int), .int .i64 (q : Int)] parF.t)
        have hzA : w.heap.size + 3 ≤ (w3.alloc (.cells #[.int .i64 (i : Int), .int .i64 (q : Int)] parF.t)).heap.size := by simp; omega
        clear hy hmul HPE x3 z3 o3
        go_wp2_with (refine wpList_appendF parF rfl _ (.tmp 35) (.tmp 44) 66 (.agg #[.int .i64 0, .int .i64 0]) 16 rfl Try.underlying66 info_Par rfl (by decide) (by decide) (w.heap.size + 3) _ L [⟨(i : Int), (q : Int)⟩] w3.heap.size 0 1 1 (w3.heap.size + 1) rfl rfl oA hr1 hl30 hzA ?_)
        intro A5 c5 w5 o5 hg5
        have x5 := xA.mark hg5 (fun q hq => by have := (hbd q hq).1; omega)
        have z5 := zA.mark hg5 (fun q hq e => by have := (hbd q hq).1; omega)
        have hz5 := Nat.le_trans hzA hg5.size
        clear oA xA zA hr1 hg5 hbd e0
        go_wp2
        go_roundw
        case rel => exact ⟨i + 1, A5, c5, L ++ [⟨(i : Int), (q : Int)⟩], hlt, by go_num, by rw [List.length_append]; rfl, HLN, by rw [List.length_append]; exact o5, hz5, x5, z5⟩
        case measure => simp [intOf]; omega
      | false =>
        have HLN := Lib.hid (show L = pairsTo m pm pk d a (i + 1) by rw [pairsTo_no HG.out]; exact HL.out)
        clear HL
        go_wp2
        go_roundw
        case rel => exact ⟨i + 1, A, c9, L, hlt, by go_num, rfl, HLN, o3, hz3, x3, z3⟩
        case measure => simp [intOf]; omega
    · have HF := Lib.hid (show L = pairsTo m pm pk d a xs.length by rw [HL.out, show i = xs.length by omega])
      go_wp2
      go_ret
      rw [← HF.out]
      exact ⟨A, c9, rfl, ho.mono (by omega), x1.bel⟩
set_option maxRecDepth 100000 in
set_option maxHeartbeats 4000000 in
theorem isDifference_any (m k b off c pm pk b' off' c' : Nat) (xs ys : List Int) (p q : Nat) (x y : Int) (w : World) (R : Rd w w.heap.size (some ⟨b, off, none⟩) xs.length c xs) (S : Rd w w.heap.size (some ⟨b', off', none⟩) ys.length c' ys)
    (hp : p < xs.length) (hq : q < ys.length) (hx : xs.getD p 0 = x) (hy : ys.getD q 0 = y) :
    Calls Try.prog 36 #[chartV m k (.slice (some ⟨b, off, none⟩) xs.length c), chartV pm pk (.slice (some ⟨b', off', none⟩) ys.length c'), .agg #[.int .i64 (p : Int), .int .i64 (q : Int)]] w (Out w (.bool (x != y))) := by
  have x0 := (C2.start (m := m) (k := k) (pm := pm) (pk := pk) R S).alloc (.cells #[.int .i64 (p : Int), .int .i64 (q : Int)] 69)
  have z0 := (Blk.new ((w.alloc (chB m k b off xs.length c)).alloc (chB pm pk b' off' ys.length c')) #[.int .i64 (p : Int), .int .i64 (q : Int)] 69).at_ (q := w.heap.size + 2) (by simp)
  clear R S
  go_enter Try.func36, Try.ntmps36
  go_upto_region 1 with fail
  generalize ((w.alloc (chB m k b off xs.length c)).alloc (chB pm pk b' off' ys.length c')).alloc (.cells #[.int .i64 (p : Int), .int .i64 (q : Int)] 69) = W0 at *
  have e0 := x0.a2
  have e1 := x0.d2
  have f0 := z0.cell 0
  have f1 := z0.cell 1
  have g0 := rd_knot x0.r hp hx
  have g1 := rd_knot x0.s hq hy
  go_quiet (fail)
  have x2 := x0.drewN nq
  clear hx hy
  go_wp2
  go_ret
  exact ⟨rfl, x2.bel⟩
end Go.Proofs.Ytgkflgfjbaobcaa
