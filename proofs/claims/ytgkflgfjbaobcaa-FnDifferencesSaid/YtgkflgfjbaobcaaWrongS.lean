/- The walks of the model's l13Shift, l13Wrong, DifferencesAt, WrongKnots, WrongRows. No condition. -/
import Derived.Test.YtgkflgfjbaobcaaWrongK
namespace Go.Proofs.Ytgkflgfjbaobcaa
open Go.RowKit

set_option maxRecDepth 100000 in
set_option maxHeartbeats 4000000 in
theorem l13Shift_any (W H : Int) (A : Option Addr) (n c B : Nat) (xs : List Int) (W' H' : Int) (A' : Option Addr) (n' c' B' : Nat) (ys : List Int) (d a : Int) (w : World) (h : Rd w B A n c xs) (hB : B ≤ w.heap.size) (h' : Rd w B' A' n' c' ys) (hB' : B' ≤ w.heap.size) :
    Calls Try.prog 21 #[chartV W H (.slice A n c), chartV W' H' (.slice A' n' c'), .int .i64 d, .int .i64 a] w (Out w (.bool (okX W H xs W' H' ys d a))) := by
  have HB := Lib.hid (((Below.refl w.heap.size w).alloc (Nat.le_refl _) (.cells #[.int .i64 W, .int .i64 H, .slice A n c] 26)).alloc (by simp) (.cells #[.int .i64 W', .int .i64 H', .slice A' n' c'] 26))
  have h1 := (h.alloc hB (.cells #[.int .i64 W, .int .i64 H, .slice A n c] 26)).alloc (by simp; omega) (.cells #[.int .i64 W', .int .i64 H', .slice A' n' c'] 26)
  have h2 := (h'.alloc hB' (.cells #[.int .i64 W, .int .i64 H, .slice A n c] 26)).alloc (by simp; omega) (.cells #[.int .i64 W', .int .i64 H', .slice A' n' c'] 26)
  have y0 := (Blk.new (w.alloc (.cells #[.int .i64 W, .int .i64 H, .slice A n c] 26)) #[.int .i64 W', .int .i64 H', .slice A' n' c'] 26).at_ (q := w.heap.size + 1) (by simp)
  have hzz : w.heap.size + 2 ≤ ((w.alloc (.cells #[.int .i64 W, .int .i64 H, .slice A n c] 26)).alloc (.cells #[.int .i64 W', .int .i64 H', .slice A' n' c'] 26)).heap.size := by simp
  clear h h'
  cases hg : goodB W H xs with
  | false =>
    have HO := Lib.hid (okX_no1 (W' := W') (H' := H') (ys := ys) (d := d) (a := a) hg)
    go_enter Try.func21, Try.ntmps21
    go_wp2_with fail
    refine (l2Good_any W H A n c B xs _ h1 (by simp; omega)).mono ?_
    rintro e w1 ⟨rfl, hb⟩
    rw [hg]
    go_wp2
    go_ret
    exact ⟨ret_bool HO.out.symm, HB.out.trans (hb.mono (by omega))⟩
  | true =>
    cases hg' : goodB W' H' ys with
    | false =>
      have HO := Lib.hid (okX_no2 (W := W) (H := H) (xs := xs) (d := d) (a := a) hg')
      go_enter Try.func21, Try.ntmps21
      go_wp2_with fail
      refine (l2Good_any W H A n c B xs _ h1 (by simp; omega)).mono ?_
      rintro e w1 ⟨rfl, hb⟩
      rw [hg]
      have y1 := y0.all hb
      have e0 := y1.cell 0
      have e1 := y1.cell 1
      have e2 := y1.cell 2
      have hz1 := Nat.le_trans hzz hb.size
      have h3 := h2.all hb (by simp; omega)
      replace HB := Lib.hid (HB.out.trans (hb.mono (by omega)))
      clear hb h1 h2 y0
      go_wp2_with fail
      refine (l2Good_any W' H' A' n' c' B' ys w1 h3 (by omega)).mono ?_
      rintro e w2 ⟨rfl, hb⟩
      rw [hg']
      go_wp2
      go_ret
      exact ⟨ret_bool HO.out.symm, HB.out.trans (hb.mono (by omega))⟩
    | true =>
      obtain ⟨t1, ht1⟩ : ∃ t, inB d (-2) 2 = t := ⟨_, rfl⟩
      obtain ⟨t2, ht2⟩ : ∃ t, inB a (-2) 2 = t := ⟨_, rfl⟩
      have HO := Lib.hid (show okX W H xs W' H' ys d a = (t1 && t2) by rw [← ht1, ← ht2]; simp only [okX, hg, hg', Bool.true_and]; rfl)
      go_enter Try.func21, Try.ntmps21
      go_wp2_with fail
      refine (l2Good_any W H A n c B xs _ h1 (by simp; omega)).mono ?_
      rintro e w1 ⟨rfl, hb⟩
      rw [hg]
      have y1 := y0.all hb
      have e0 := y1.cell 0
      have e1 := y1.cell 1
      have e2 := y1.cell 2
      have hz1 := Nat.le_trans hzz hb.size
      have h3 := h2.all hb (by simp; omega)
      replace HB := Lib.hid (HB.out.trans (hb.mono (by omega)))
      clear hb h1 h2 y0
      go_wp2_with fail
      refine (l2Good_any W' H' A' n' c' B' ys w1 h3 (by omega)).mono ?_
      rintro e w2 ⟨rfl, hb⟩
      rw [hg']
      cases t1 with
      | true =>
        go_wp2_with (go_at_call 37; (with_reducible refine (l1In_any _ _ _ _).mono ?_); rintro e w' ⟨rfl, rfl⟩)
        go_ret
        exact ⟨ret_bool (by rw [HO.out]; simp), HB.out.trans (hb.mono (by omega))⟩
      | false =>
        go_wp2_with (go_at_call 37; (with_reducible refine (l1In_any _ _ _ _).mono ?_); rintro e w' ⟨rfl, rfl⟩)
        go_ret
        exact ⟨ret_bool (by rw [HO.out]; simp), HB.out.trans (hb.mono (by omega))⟩
/-- What l13Wrong leaves. -/
def OutWS (w : World) (L : List PairR) (n : Nat) (e : Ending) (w' : World) : Prop :=
  ∃ A c, e = .returned (.tuple #[.slice A L.length c, .int .i64 (n : Int)]) ∧ OwnF pairF w' w.heap.size (.slice A L.length c) L ∧ Below w.heap.size w w'
theorem div_of {m r c : Nat} (hc : c < m) : (r * m + c) / m = r ∧ (r * m + c) % m = c := by
  have hm : 0 < m := by omega
  constructor
  · rw [Nat.mul_comm, Nat.mul_add_div hm, Nat.div_eq_of_lt hc]; rfl
  · rw [Nat.mul_comm, Nat.mul_add_mod, Nat.mod_eq_of_lt hc]
theorem wr_facts {r c : Nat} {d a : Int} (hr : r < 8) (hc : c < 8) (hd : -2 ≤ d ∧ d ≤ 2) (ha : -2 ≤ a ∧ a ≤ 2) :
    wrap64 ((r : Int) + d) = (r : Int) + d ∧ wrap64 ((c : Int) + a) = (c : Int) + a ∧ IntKind.i64.wrap ((r : Int) + d) = (r : Int) + d ∧ IntKind.i64.wrap ((c : Int) + a) = (c : Int) + a ∧ I64 ((r : Int) + d) ∧ I64 ((c : Int) + a) :=
  ⟨IntWalk.wrap64_in _ (by omega), IntWalk.wrap64_in _ (by omega), IntWalk.i64_in _ (by omega), IntWalk.i64_in _ (by omega), ⟨by omega, by omega⟩, ⟨by omega, by omega⟩⟩
theorem knots_yes {m pm pk i : Nat} {xs ys : List Int} {d a : Int} (h : hasP m pm pk d a i = true) (h2 : difB m pm xs ys d a i = true) : (wrTo m pm pk xs ys d a (i + 1)).map (knotOf m) = (wrTo m pm pk xs ys d a i).map (knotOf m) ++ [knotOf m i] := by
  rw [wrTo_yes h h2, List.map_append]; rfl
theorem wrap_n {n : Nat} (h : n < 64) : wrap64 ((n : Int) + 1) = (n : Int) + 1 := IntWalk.wrap64_in _ (by omega)
theorem kn_len {m pm pk i n : Nat} {xs ys : List Int} {d a : Int} {K : List PairR} {s : PairR} (h : K ++ [s] = (wrTo m pm pk xs ys d a i).map (knotOf m) ∧ n + 1 = (parTo m pm pk d a i).length) (hn : n < 64) : K.length + 1 ≤ 64 := by
  have h1 := congrArg List.length h.1
  rw [List.length_append, List.length_map] at h1
  have h2 := wrTo_le (m := m) (pm := pm) (pk := pk) (xs := xs) (ys := ys) (d := d) (a := a) (i := i)
  have h3 := h.2
  simp only [List.length_cons, List.length_nil] at h1
  omega
theorem l2At_eq (m k r j b off c : Nat) (xs : List Int) (R C x : Int) (w : World) (hR : R = (r : Int)) (hC : C = (j : Int)) (h : xs.length = m * k) (h64 : m * k ≤ 64) (hr : r < k) (hj : j < m) (hB : b < w.heap.size)
    (hx : w.cell? ⟨b, off + (r * m + j), none⟩ = some (.int .i64 x)) :
    Calls Try.prog 39 #[chartV m k (.slice (some ⟨b, off, none⟩) xs.length c), .int .i64 R, .int .i64 C] w (Out w (.int .i64 x)) := by
  subst hR; subst hC
  exact l2At_any m k r j b off c xs x w h h64 hr hj hB hx
set_option maxRecDepth 100000 in
set_option maxHeartbeats 16000000 in
theorem l13Wrong_any (m k b off c pm pk b' off' c' : Nat) (xs ys : List Int) (d a : Int) (w : World) (R : Rd w w.heap.size (some ⟨b, off, none⟩) xs.length c xs) (S : Rd w w.heap.size (some ⟨b', off', none⟩) ys.length c' ys)
    (hg' : goodB pm pk ys = true) (hs : shB d a = true) (hm : 1 ≤ m) (hm8 : m ≤ 8) (hk8 : k ≤ 8) (h64 : xs.length ≤ 64) (hp8 : pm ≤ 8) (hq8 : pk ≤ 8) (hl : Hid (xs.length = m * k)) (hl' : Hid (ys.length = pm * pk)) :
    Calls Try.prog 22 #[chartV m k (.slice (some ⟨b, off, none⟩) xs.length c), chartV pm pk (.slice (some ⟨b', off', none⟩) ys.length c'), .int .i64 d, .int .i64 a] w (OutWS w ((wrTo m pm pk xs ys d a xs.length).map (knotOf m)) (parTo m pm pk d a xs.length).length) := by
  have hsd := shB_yes hs
  have x0 := (C2.start (m := m) (k := k) (pm := pm) (pk := pk) R S).alloc (.cells #[] 53)
  have o0 : OwnF pairF (((w.alloc (chB m k b off xs.length c)).alloc (chB pm pk b' off' ys.length c')).alloc (.cells #[] 53)) (w.heap.size + 2) (.slice (some ⟨w.heap.size + 1 + 1, 0, none⟩) 0 0) [] := by simpa [pairF] using (OwnF.empty pairF (w := (w.alloc (chB m k b off xs.length c)).alloc (chB pm pk b' off' ys.length c')) (lo := w.heap.size + 2) (by simp))
  have hmk : m * k ≤ 64 := by rw [← hl.out]; exact h64
  have hpk : pm * pk ≤ 64 := Nat.mul_le_mul hp8 hq8
  have hm8' : (m : Int) ≤ 8 := by omega
  have HST : Hid (([] : List PairR) = (wrTo m pm pk xs ys d a (0 * m)).map (knotOf m) ∧ 0 = (parTo m pm pk d a (0 * m)).length) := Lib.hid ⟨by simp [wrTo], by simp [parTo]⟩
  clear R S hs
  go_enter Try.func22, Try.ntmps22
  go_wp2
  generalize ((w.alloc (chB m k b off xs.length c)).alloc (chB pm pk b' off' ys.length c')).alloc (.cells #[] 53) = W0 at *
  go_loopw [10, 11, 12] (fun s10 s11 s12 wr => ∃ (r n : Nat) (A : Option Addr) (c9 : Nat) (K : List PairR), r ≤ k ∧ s12 = .int .i64 r ∧ s11 = .int .i64 n ∧ n ≤ 64 ∧ s10 = .slice A K.length c9 ∧ K.length ≤ 64 ∧ Hid (K = (wrTo m pm pk xs ys d a (r * m)).map (knotOf m) ∧ n = (parTo m pm pk d a (r * m)).length) ∧
      OwnF pairF wr (w.heap.size + 2) (.slice A K.length c9) K ∧ C2 w m k b off c xs pm pk b' off' c' ys wr) (fun _ _ s12 _ => k - (intOf s12).toNat)
  case atStart => exact ⟨0, 0, _, 0, [], Nat.zero_le _, rfl, rfl, Nat.zero_le _, rfl, Nat.zero_le _, HST, o0, x0⟩
  case round =>
    clear x0 o0 HST
    obtain ⟨r, n, A, c9, K, hr, rfl, rfl, hn64, rfl, hK64, HK, ho, x1⟩ := hrel
    have e1 := x1.a1
    by_cases hlt : r < k
    · go_wp2
      clear e1
      go_loopw [10, 11, 13] (fun s10 s11 s13 wr => ∃ (j n : Nat) (A : Option Addr) (c9 : Nat) (K : List PairR), j ≤ m ∧ s13 = .int .i64 j ∧ s11 = .int .i64 n ∧ n ≤ 64 ∧ s10 = .slice A K.length c9 ∧ K.length ≤ 64 ∧ Hid (K = (wrTo m pm pk xs ys d a (r * m + j)).map (knotOf m) ∧ n = (parTo m pm pk d a (r * m + j)).length) ∧
          OwnF pairF wr (w.heap.size + 2) (.slice A K.length c9) K ∧ C2 w m k b off c xs pm pk b' off' c' ys wr) (fun _ _ s13 _ => m - (intOf s13).toNat)
      case atStart => exact ⟨0, n, A, c9, K, Nat.zero_le _, rfl, rfl, hn64, rfl, hK64, HK, ho, x1⟩
      case round =>
        clear ho x1 HK
        obtain ⟨j, n, A, c9, K, hj, rfl, rfl, hn64, rfl, hK64, HK, ho, x1⟩ := hrel
        have e0 := x1.a0
        by_cases hjl : j < m
        · have hpl : r * m + j < xs.length := at_lt hl.out hlt hjl
          have HWF := Lib.hid (wr_facts (r := r) (c := j) (Nat.lt_of_lt_of_le hlt hk8) (Nat.lt_of_lt_of_le hjl hm8) hsd.1 hsd.2)
          have hdv := div_of (r := r) hjl
          have HPE := Lib.hid (ptn_eq (m := m) (pm := pm) (pk := pk) (p := r * m + j) (d := d) (a := a))
          obtain ⟨g, hg0⟩ : ∃ g, hasP m pm pk d a (r * m + j) = g := ⟨_, rfl⟩
          have HG := Lib.hid hg0
          have HW := Lib.hid (show knotOk pm pk ys ((r : Int) + d) ((j : Int) + a) = g by
            unfold hasP at hg0
            rw [hdv.1, hdv.2] at hg0
            unfold knotOk
            rw [hg', hg0]; rfl)
          rw [hg0, hdv.1, hdv.2] at HPE
          have HKO := Lib.hid (show knotOf m (r * m + j) = ⟨(r : Int), (j : Int)⟩ by unfold knotOf; rw [hdv.1, hdv.2])
          have hn1 := Lib.hid (Nat.lt_of_le_of_lt (Nat.le_of_eq HK.out.2) (Nat.lt_of_le_of_lt parTo_len (Nat.lt_of_lt_of_le hpl h64)))
          have HPN := Lib.hid (show ∀ ra ca : Nat, (r : Int) + d = (ra : Int) → (j : Int) + a = (ca : Int) → ptn m pm d a (r * m + j) = ra * pm + ca from fun ra ca e1 e2 => by unfold ptn; rw [hdv.1, hdv.2, e1, e2]; simp)
          clear hg0 hdv
          have d0 := x1.d0
          have d1 := x1.d1
          have d2 := x1.d2
          have hz1 := x1.sz
          have hz00 : w.heap.size ≤ wr.heap.size := by omega
          obtain ⟨hw1, hw2, hw3, hw4, _, _⟩ := HWF.out
          go_wp2_with fail
          refine (l2Within_any pm pk _ _ c' w.heap.size ys ((r : Int) + d) ((j : Int) + a) wr x1.s hz00).mono ?_
          rintro e w2 ⟨rfl, hb⟩
          rw [HW.out]
          have x2 := x1.all hb
          have o2 := ho.all hb
          clear e0 d0 d1 d2 hz1 hz00 x1 ho hb hw1 hw2 hw3 hw4
          cases g with
          | false =>
            have HN := Lib.hid (show K = (wrTo m pm pk xs ys d a (r * m + (j + 1))).map (knotOf m) ∧ n = (parTo m pm pk d a (r * m + (j + 1))).length by
              rw [← Nat.add_assoc, wrTo_no (by rw [HG.out]; rfl), parTo_no HG.out]; exact HK.out)
            clear HK
            go_wp2
            go_roundw
            case rel => exact ⟨j + 1, n, A, c9, K, hjl, by go_num, rfl, hn64, rfl, hK64, HN, o2, x2⟩
            case measure => simp [intOf]; omega
          | true =>
            obtain ⟨_, hyl, h0r, h0c, h1r, h1c⟩ := HPE.out rfl
            obtain ⟨ra, hra⟩ := Int.eq_ofNat_of_zero_le h0r
            obtain ⟨ca, hca⟩ := Int.eq_ofNat_of_zero_le h0c
            have hPN := HPN.out ra ca hra hca
            have hra1 : ra < pk := by omega
            have hca1 : ca < pm := by omega
            have hyl2 : ra * pm + ca < ys.length := at_lt hl'.out hra1 hca1
            obtain ⟨x, hx⟩ : ∃ x, xs.getD (r * m + j) 0 = x := ⟨_, rfl⟩
            obtain ⟨y, hy⟩ : ∃ y, ys.getD (ra * pm + ca) 0 = y := ⟨_, rfl⟩
            have HDF := Lib.hid (show difB m pm xs ys d a (r * m + j) = (x != y) by unfold difB; rw [hPN, hx, hy])
            have HRA := Lib.hid hra
            have HCA := Lib.hid hca
            have gx : w2.drew.cell? ⟨b, off + (r * m + j), none⟩ = some (.int .i64 x) := rd_knot x2.r hpl hx
            have gy : w2.drew.cell? ⟨b', off' + (ra * pm + ca), none⟩ = some (.int .i64 y) := rd_knot x2.s hyl2 hy
            have hbz : b < w2.drew.heap.size := by
              obtain ⟨_, _, e, hb, _⟩ := x2.r.cells (by omega); cases e
              have := x2.sz; show b < w2.heap.size; omega
            have hbz' : b' < w2.drew.heap.size := by
              obtain ⟨_, _, e, hb, _⟩ := x2.s.cells (by omega); cases e
              have := x2.sz; show b' < w2.heap.size; omega
            have e0 := x2.a0
            have e1 := x2.a1
            have e2 := x2.a2
            have d0 := x2.d0
            have d1 := x2.d1
            have d2 := x2.d2
            have z0 := x2.x.lt
            have z1 := x2.y.lt
            have HWN := Lib.hid (wrap_n hn1.out)
            have HNP := Lib.hid (show n + 1 = (parTo m pm pk d a (r * m + (j + 1))).length by rw [← Nat.add_assoc, parTo_yes HG.out, List.length_append, ← HK.out.2]; rfl)
            clear hra hca hPN hyl h0r h0c h1r h1c hyl2 hx hy HPE HPN
            obtain ⟨hw1, hw2, hw3, hw4, _, _⟩ := HWF.out
            have hwn := HWN.out
            go_upto_region 10 with fail
            go_region_held3 (fun w' => w'.cell? ⟨w.heap.size, 0, none⟩ = some (.int .i64 m) ∧ w'.cell? ⟨w.heap.size, 1, none⟩ = some (.int .i64 k) ∧ w'.cell? ⟨w.heap.size, 2, none⟩ = some (.slice (some ⟨b, off, none⟩) xs.length c) ∧ w'.cell? ⟨w.heap.size + 1, 0, none⟩ = some (.int .i64 pm) ∧ w'.cell? ⟨w.heap.size + 1, 1, none⟩ = some (.int .i64 pk) ∧ w'.cell? ⟨w.heap.size + 1, 2, none⟩ = some (.slice (some ⟨b', off', none⟩) ys.length c')) (first | exact ⟨e0, e1, e2, d0, d1, d2⟩ | go_keep) (first | (go_at_call 39; (with_reducible refine (l2At_eq m k r j b off c xs (r : Int) (j : Int) x _ rfl rfl hl.out hmk hlt hjl hbz gx).mono ?_); rintro e w3 ⟨rfl, hb3⟩; (try replace hb3 := below_drew' hb3); replace x2 := x2.all hb3; replace o2 := o2.all hb3; replace gx := cells_of hb3 gx hbz; replace gy := cells_of hb3 gy hbz'; replace hbz := Nat.lt_of_lt_of_le hbz hb3.size; replace hbz' := Nat.lt_of_lt_of_le hbz' hb3.size; replace e0 := cells_of hb3 e0 z0; replace e1 := cells_of hb3 e1 z0; replace e2 := cells_of hb3 e2 z0; replace d0 := cells_of hb3 d0 z1; replace d1 := cells_of hb3 d1 z1; replace d2 := cells_of hb3 d2 z1; replace z0 := Nat.lt_of_lt_of_le z0 hb3.size; replace z1 := Nat.lt_of_lt_of_le z1 hb3.size; clear hb3) | (go_at_call 39; (with_reducible refine (l2At_eq pm pk ra ca b' off' c' ys ((r : Int) + d) ((j : Int) + a) y _ HRA.out HCA.out hl'.out hpk hra1 hca1 hbz' gy).mono ?_); rintro e w3 ⟨rfl, hb3⟩; (try replace hb3 := below_drew' hb3); replace x2 := x2.all hb3; replace o2 := o2.all hb3; replace gx := cells_of hb3 gx hbz; replace gy := cells_of hb3 gy hbz'; replace hbz := Nat.lt_of_lt_of_le hbz hb3.size; replace hbz' := Nat.lt_of_lt_of_le hbz' hb3.size; replace e0 := cells_of hb3 e0 z0; replace e1 := cells_of hb3 e1 z0; replace e2 := cells_of hb3 e2 z0; replace d0 := cells_of hb3 d0 z1; replace d1 := cells_of hb3 d1 z1; replace d2 := cells_of hb3 d2 z1; replace z0 := Nat.lt_of_lt_of_le z0 hb3.size; replace z1 := Nat.lt_of_lt_of_le z1 hb3.size; clear hb3))
            all_goals
              clear e0 e1 e2 d0 d1 d2 gx gy hbz hbz' z0 z1 hw1 hw2 hw3 hw4 hwn
              obtain ⟨t, ht⟩ : ∃ t, (x != y) = t := ⟨_, rfl⟩
              rw [ht] at HDF
              cases t with
              | true =>
                have HN := Lib.hid (show K ++ [(⟨(r : Int), (j : Int)⟩ : PairR)] = (wrTo m pm pk xs ys d a (r * m + (j + 1))).map (knotOf m) ∧ n + 1 = (parTo m pm pk d a (r * m + (j + 1))).length from ⟨by rw [← Nat.add_assoc, knots_yes HG.out HDF.out, HKO.out, ← HK.out.1], HNP.out⟩)
                have hl30 : K.length + 1 ≤ 1073741824 := by omega
                have hbd := o2.bd
                have hKn := Lib.hid (kn_len HN.out hn1.out)
                have hr1 := RdF.lit (F := pairF) (w := w3) (cs := #[.int .i64 (r : Int), .int .i64 (j : Int)]) (a := ⟨(r : Int), (j : Int)⟩) rfl (ok_small (by omega) (by omega))
                have oA := o2.alloc (.cells #[.int .i64 (r : Int), .int .i64 (j : Int)] pairF.t)
                have xA := x2.alloc (.cells #[.int .i64 (r : Int), .int .i64 (j : Int)] pairF.t)
                have hzA : w.heap.size + 2 ≤ (w3.alloc (.cells #[.int .i64 (r : Int), .int .i64 (j : Int)] pairF.t)).heap.size := xA.sz
                clear o2 x2 HK
                go_wp2_with (refine wpList_appendF pairF rfl _ (.tmp 51) (.tmp 55) 31 (.agg #[.int .i64 0, .int .i64 0]) 16 rfl Try.underlying31 info_Pair rfl (by decide) (by decide) (w.heap.size + 2) _ K [⟨(r : Int), (j : Int)⟩] w3.heap.size 0 1 1 (w3.heap.size + 1) rfl rfl oA hr1 hl30 hzA ?_)
                intro A5 c5 w5 o5 hg5
                have x5 := xA.mark hg5 (fun q hq => (hbd q hq).1)
                clear oA xA hr1 hg5 hbd
                go_wp2
                go_roundw
                case rel => exact ⟨j + 1, n + 1, A5, c5, _, hjl, by go_num, by go_num, hn1.out, by rw [List.length_append]; rfl, by rw [List.length_append]; exact hKn.out, HN, by rw [List.length_append]; exact o5, x5⟩
                case measure => simp [intOf]; omega
              | false =>
                have HN := Lib.hid (show K = (wrTo m pm pk xs ys d a (r * m + (j + 1))).map (knotOf m) ∧ n + 1 = (parTo m pm pk d a (r * m + (j + 1))).length from ⟨by rw [← Nat.add_assoc, wrTo_no (by rw [HG.out, HDF.out]; rfl)]; exact HK.out.1, HNP.out⟩)
                clear HK
                go_wp2
                go_roundw
                case rel => exact ⟨j + 1, n + 1, A, c9, K, hjl, by go_num, by go_num, hn1.out, rfl, hK64, HN, o2, x2⟩
                case measure => simp [intOf]; omega
        · obtain rfl : j = m := by omega
          have HN := Lib.hid (show K = (wrTo j pm pk xs ys d a ((r + 1) * j)).map (knotOf j) ∧ n = (parTo j pm pk d a ((r + 1) * j)).length by rw [Nat.succ_mul]; exact HK.out)
          clear HK
          go_wp2
          go_roundw
          case rel => exact ⟨r + 1, n, A, c9, K, hlt, by go_num, rfl, hn64, rfl, hK64, HN, ho, x1⟩
          case measure => simp [intOf]; omega
    · have HF := Lib.hid (show (wrTo m pm pk xs ys d a xs.length).map (knotOf m) = K ∧ (parTo m pm pk d a xs.length).length = n by
        have e : xs.length = r * m := by rw [hl.out, Nat.mul_comm, show r = k by omega]
        rw [e]; exact ⟨HK.out.1.symm, HK.out.2.symm⟩)
      go_wp2
      go_ret2
      rw [HF.out.1, HF.out.2]
      exact ⟨A, c9, rfl, ho.mono (by omega), x1.bel⟩
end Go.Proofs.Ytgkflgfjbaobcaa
