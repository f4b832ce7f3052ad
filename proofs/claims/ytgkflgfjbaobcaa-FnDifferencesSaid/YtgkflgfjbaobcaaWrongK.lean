/- The walks of the program's WrongKnots and WrongRows. No condition. -/
import Derived.Test.YtgkflgfjbaobcaaWrongI
import Derived.Test.YtgkflgfjbaobcaaStepF
import Derived.Test.YtgkflgfjbaobcaaPairHelp
import Derived.Test.YtgkflgfjbaobcaaMakeI
namespace Go.Proofs.Ytgkflgfjbaobcaa
open Go.RowKit

def knotOf (m : Nat) (p : Nat) : PairR := ⟨((p / m : Nat) : Int), ((p % m : Nat) : Int)⟩
def knX (W H : Int) (xs : List Int) (W' H' : Int) (ys : List Int) (d a : Int) : List PairR := (wrX W H xs W' H' ys d a).map (knotOf W.toNat)
theorem knX_len {W H W' H' d a : Int} {xs ys : List Int} : (knX W H xs W' H' ys d a).length ≤ 64 := by unfold knX; rw [List.length_map]; exact wrX_len
/-- What is in the list: a place of a valid plan. -/
theorem wrX_in {W H W' H' d a : Int} {xs ys : List Int} {p : Nat} (h : p ∈ wrX W H xs W' H' ys d a) : ∃ m k : Nat, W = m ∧ H = k ∧ 1 ≤ m ∧ m ≤ 8 ∧ p < 64 ∧ k ≤ 8 ∧ p / m < k := by
  unfold wrX at h
  split at h
  · rename_i ho
    have hg : goodB W H xs = true := by unfold okX at ho; simp at ho; exact ho.1.1
    obtain ⟨m, k, rfl, rfl, m1, m8, k1, k8, hl, h64, hl1, hx⟩ := good_nat hg
    have hp := (wrTo_mem.1 h).1
    refine ⟨m, k, rfl, rfl, m1, m8, by omega, k8, ?_⟩
    rw [hl.out] at hp
    exact Nat.div_lt_of_lt_mul hp
  · simp at h
theorem knot_facts {m p : Nat} (hm : 1 ≤ m) (hm8 : m ≤ 8) (hp : p < 64) :
    ∃ u v : Nat, Hid (p / m = u) ∧ Hid (p % m = v) ∧ u ≤ 64 ∧ v ≤ 64 ∧ ¬ (m : Int) = 0 ∧ Int.tdiv (p : Int) (m : Int) = (u : Int) ∧ Int.tmod (p : Int) (m : Int) = (v : Int) ∧ wrap64 (u : Int) = (u : Int) ∧ IntKind.i64.wrap (u : Int) = (u : Int) ∧ Hid (knotOf m p = ⟨(u : Int), (v : Int)⟩) := by
  have hal : p / m ≤ 64 := Nat.le_trans (Nat.div_le_self _ _) (by omega)
  have hbl : p % m ≤ 64 := Nat.le_trans (Nat.mod_le _ _) (by omega)
  have hq : Int.tdiv (p : Int) (m : Int) = ((p / m : Nat) : Int) := rfl
  have hr : Int.tmod (p : Int) (m : Int) = ((p % m : Nat) : Int) := rfl
  refine ⟨p / m, p % m, rfl, rfl, hal, hbl, by omega, hq, hr, ?_⟩
  have hk : knotOf m p = ⟨((p / m : Nat) : Int), ((p % m : Nat) : Int)⟩ := rfl
  clear hq hr
  generalize p / m = u at *
  generalize p % m = v at *
  exact ⟨IntWalk.wrap64_in _ (by omega), IntWalk.i64_in _ (by omega), hk⟩
set_option maxRecDepth 100000 in
set_option maxHeartbeats 4000000 in
theorem implWrongKnots_any (W H : Int) (A : Option Addr) (n c B : Nat) (xs : List Int) (W' H' : Int) (A' : Option Addr) (n' c' B' : Nat) (ys : List Int) (d a : Int) (w : World) (h : Rd w B A n c xs) (hB : B ≤ w.heap.size) (h' : Rd w B' A' n' c' ys) (hB' : B' ≤ w.heap.size) :
    Calls Try.prog 8 #[chartV W H (.slice A n c), chartV W' H' (.slice A' n' c'), .int .i64 d, .int .i64 a] w (OutF pairF w (knX W H xs W' H' ys d a) (okX W H xs W' H' ys d a)) := by
  have HB := Lib.hid (((Below.refl w.heap.size w).alloc (Nat.le_refl _) (.cells #[.int .i64 W, .int .i64 H, .slice A n c] 26)).alloc (by simp) (.cells #[.int .i64 W', .int .i64 H', .slice A' n' c'] 26))
  have h1 := (h.alloc hB (.cells #[.int .i64 W, .int .i64 H, .slice A n c] 26)).alloc (by simp; omega) (.cells #[.int .i64 W', .int .i64 H', .slice A' n' c'] 26)
  have h2 := (h'.alloc hB' (.cells #[.int .i64 W, .int .i64 H, .slice A n c] 26)).alloc (by simp; omega) (.cells #[.int .i64 W', .int .i64 H', .slice A' n' c'] 26)
  have y0 := (Blk.new w #[.int .i64 W, .int .i64 H, .slice A n c] 26).alloc (.cells #[.int .i64 W', .int .i64 H', .slice A' n' c'] 26)
  have hzz : w.heap.size + 2 ≤ ((w.alloc (.cells #[.int .i64 W, .int .i64 H, .slice A n c] 26)).alloc (.cells #[.int .i64 W', .int .i64 H', .slice A' n' c'] 26)).heap.size := by simp
  clear h h'
  go_enter Try.func8, Try.ntmps8
  go_wp2_with fail
  refine (wrongPlaces_any W H A n c B xs W' H' A' n' c' B' ys d a _ h1 (by simp; omega) h2 (by simp; omega)).mono ?_
  rintro e w1 ⟨A1, c1, rfl, own1, hb⟩
  have y1 := y0.all hb
  have hz1 := Nat.le_trans hzz hb.size
  replace HB := Lib.hid (HB.out.trans (hb.mono (by omega)))
  have HIN := Lib.hid (fun p => wrX_in (W := W) (H := H) (W' := W') (H' := H') (d := d) (a := a) (xs := xs) (ys := ys) (p := p))
  have h64 : (wrX W H xs W' H' ys d a).length ≤ 64 := wrX_len
  have HKX := Lib.hid (show knX W H xs W' H' ys d a = (wrX W H xs W' H' ys d a).map (knotOf W.toNat) from rfl)
  obtain ⟨L, HL⟩ : ∃ L, Hid (wrX W H xs W' H' ys d a = L) := ⟨_, rfl⟩
  obtain ⟨ok, HO⟩ : ∃ ok, Hid (okX W H xs W' H' ys d a = ok) := ⟨_, rfl⟩
  rw [show wrX W H xs W' H' ys d a = L from HL.out] at own1 HIN h64 HKX ⊢
  rw [show okX W H xs W' H' ys d a = ok from HO.out]
  clear hb h1 h2 y0 hzz
  go_wp2
  go_loopw [13, 27] (fun s13 s27 wr => ∃ (j : Nat) (A : Option Addr) (c9 : Nat) (K : List PairR), j ≤ L.length ∧ s27 = .int .i64 j ∧ s13 = .slice A K.length c9 ∧ Hid (K = (L.take j).map (knotOf W.toNat)) ∧ OwnF pairF wr w1.heap.size (.slice A K.length c9) K ∧ w1.heap.size ≤ wr.heap.size ∧ Hid (Below w1.heap.size w1 wr)) (fun _ s27 _ => L.length - (intOf s27).toNat)
  case atStart => exact ⟨0, none, 0, [], Nat.zero_le _, rfl, rfl, Lib.hid (by simp), OwnF.nil _ _ _, Nat.le_refl _, Lib.hid (Below.refl _ _)⟩
  case round =>
    obtain ⟨j, A2, c9, K, hj, rfl, rfl, HK, ho, hzw, HBw⟩ := hrel
    by_cases hlt : j < L.length
    · have hR := (own1.all HBw.out)
      have hp : L[j]? = some (L[j]'hlt) := List.getElem?_eq_getElem hlt
      obtain ⟨p, hpe⟩ : ∃ p, L[j]'hlt = p := ⟨_, rfl⟩
      rw [hpe] at hp
      obtain ⟨m, k, rfl, rfl, hm, hm8, hp64, _, _⟩ := HIN.out p (List.mem_of_getElem? hp)
      obtain ⟨g, rfl, hg1, hg2⟩ := hR.some_ (by rw [upN_len]; omega)
      have f0 := own_at hR (j := j) (by rw [upN_len]; exact hlt) (upN_get hp)
      obtain ⟨u, v, _, _, hu, hv, hm0, hq, hr, hwu, hwu', HKP⟩ := knot_facts (p := p) hm hm8 hp64
      have HKN := Lib.hid (show K ++ [(⟨(u : Int), (v : Int)⟩ : PairR)] = (L.take (j + 1)).map (knotOf m) by
        rw [List.take_succ_eq_append_getElem hlt, hpe, List.map_append, HK.out]; simp [HKP.out])
      have hKl : K.length ≤ 64 := by rw [HK.out, List.length_map]; exact Nat.le_trans (List.length_take_le _ _) (by omega)
      have hl30 : K.length + 1 ≤ 1073741824 := by omega
      have hc1 := hR.rd.cap
      have y2 := y1.all HBw.out
      have e0 := y2.cell 0
      have hmn : ¬ m = 0 := by omega
      clear hp hpe hR HK
      go_upto_region 6 with fail
      clear f0
      have oA := (ho.drew).alloc (.cells #[.int .i64 (u : Int), .int .i64 (v : Int)] pairF.t)
      have hr1 := RdF.lit (F := pairF) (w := wr.drew) (cs := #[.int .i64 (u : Int), .int .i64 (v : Int)]) (a := ⟨(u : Int), (v : Int)⟩) rfl (ok_small (by omega) (by omega))
      have hzA : w1.heap.size ≤ (wr.drew.alloc (.cells #[.int .i64 (u : Int), .int .i64 (v : Int)] pairF.t)).heap.size := by rw [World.size_alloc]; exact Nat.le_succ_of_le hzw
      have HBA := Lib.hid ((belowD HBw.out).alloc hzw (.cells #[.int .i64 (u : Int), .int .i64 (v : Int)] pairF.t))
      go_region_law (refine step_appendF pairF rfl (wr.drew.alloc (.cells #[.int .i64 (u : Int), .int .i64 (v : Int)] pairF.t)) (.tmp 31) (.tmp 41) 31 (.agg #[.int .i64 0, .int .i64 0]) 16 rfl Try.underlying31 info_Pair rfl (by decide) (by decide) w1.heap.size _ K [⟨(u : Int), (v : Int)⟩] wr.drew.heap.size 0 1 1 _ (by simp [Act.eval]) (by simp [Act.eval]) oA hr1 hl30 hzA ?_; intro A5 c5 w5 o5 hg5)
      all_goals
        have hz5 := Nat.le_trans hzA hg5.size
        have HB5 := Lib.hid (HBA.out.grown hg5 hzA (fun q hq => (oA.bd q hq).1))
        clear e0 hg5 oA hr1
        go_wp2
        go_roundw
        case rel => exact ⟨j + 1, A5, c5, K ++ [⟨(u : Int), (v : Int)⟩], hlt, by go_num, by rw [List.length_append]; rfl, HKN, by rw [List.length_append]; exact o5, hz5, HB5⟩
        case measure => simp [intOf]; omega
    · have HF := Lib.hid (show knX W H xs W' H' ys d a = K by rw [HKX.out, HK.out, List.take_of_length_le (by omega)])
      go_wp2
      go_ret2
      rw [HF.out, HO.out]
      exact ⟨A2, c9, rfl, ho.mono (by omega), HB.out.trans (HBw.out.mono (by omega))⟩
/-- How many places lie in each row. -/
def rowsOf (m k : Nat) (L : List Nat) : List Int := (List.range k).map fun r : Nat => ((L.countP fun p => decide (p / m = r) : Nat) : Int)
theorem rowsOf_len (m k : Nat) (L : List Nat) : (rowsOf m k L).length = k := by simp [rowsOf]
theorem rowsOf_get {m k r : Nat} {L : List Nat} (h : r < k) : (rowsOf m k L).getD r 0 = ((L.countP fun p => decide (p / m = r) : Nat) : Int) := by
  rw [getD_at (by rw [rowsOf_len]; exact h)]; simp [rowsOf]
theorem rowsOf_nil (m k : Nat) : rowsOf m k [] = List.replicate k 0 := by
  apply List.ext_getElem
  · simp [rowsOf]
  · intro i h1 h2; simp [rowsOf]
theorem rowsOf_step {m k p v : Nat} {L : List Nat} (hp : p / m < k) (hv : (rowsOf m k L).getD (p / m) 0 = (v : Int)) : (rowsOf m k L).set (p / m) ((v : Int) + 1) = rowsOf m k (L ++ [p]) := by
  apply List.ext_getElem
  · simp [rowsOf]
  · intro i h1 h2
    have hik : i < k := by simpa [rowsOf] using h2
    rw [rowsOf_get hp] at hv
    rw [← getD_at h1, ← getD_at h2, rowsOf_get hik, List.countP_append]
    by_cases e : i = p / m
    · subst e
      rw [getD_set_self (by rw [rowsOf_len]; exact hp), ← hv]
      simp
    · rw [getD_set_ne e, rowsOf_get hik]
      have : ¬ p / m = i := fun h => e h.symm
      simp [this]
def rwX (W H : Int) (xs : List Int) (W' H' : Int) (ys : List Int) (d a : Int) : List Int := if okX W H xs W' H' ys d a = true then rowsOf W.toNat H.toNat (wrX W H xs W' H' ys d a) else []
theorem rwX_no {W H W' H' d a : Int} {xs ys : List Int} (h : okX W H xs W' H' ys d a = false) : rwX W H xs W' H' ys d a = [] := if_neg (by rw [h]; decide)
theorem okX_of {W H W' H' d a : Int} {xs ys : List Int} (h : okX W H xs W' H' ys d a = true) : goodB W H xs = true ∧ goodB W' H' ys = true ∧ shB d a = true := by unfold okX at h; simp at h; exact ⟨h.1.1, h.1.2, h.2⟩
theorem rwX_len {W H W' H' d a : Int} {xs ys : List Int} : (rwX W H xs W' H' ys d a).length ≤ 1048576 := by
  unfold rwX
  split
  · rename_i h
    obtain ⟨_, hH, _, _⟩ := goodB_yes (okX_of h).1
    rw [rowsOf_len]; omega
  · simp
set_option maxRecDepth 100000 in
set_option maxHeartbeats 4000000 in
theorem implWrongRows_any (W H : Int) (A : Option Addr) (n c B : Nat) (xs : List Int) (W' H' : Int) (A' : Option Addr) (n' c' B' : Nat) (ys : List Int) (d a : Int) (w : World) (h : Rd w B A n c xs) (hB : B ≤ w.heap.size) (h' : Rd w B' A' n' c' ys) (hB' : B' ≤ w.heap.size) :
    Calls Try.prog 11 #[chartV W H (.slice A n c), chartV W' H' (.slice A' n' c'), .int .i64 d, .int .i64 a] w (OutInts w (rwX W H xs W' H' ys d a) (okX W H xs W' H' ys d a)) := by
  have HB := Lib.hid (((Below.refl w.heap.size w).alloc (Nat.le_refl _) (.cells #[.int .i64 W, .int .i64 H, .slice A n c] 26)).alloc (by simp) (.cells #[.int .i64 W', .int .i64 H', .slice A' n' c'] 26))
  have h1 := (h.alloc hB (.cells #[.int .i64 W, .int .i64 H, .slice A n c] 26)).alloc (by simp; omega) (.cells #[.int .i64 W', .int .i64 H', .slice A' n' c'] 26)
  have h2 := (h'.alloc hB' (.cells #[.int .i64 W, .int .i64 H, .slice A n c] 26)).alloc (by simp; omega) (.cells #[.int .i64 W', .int .i64 H', .slice A' n' c'] 26)
  have y0 := (Blk.new w #[.int .i64 W, .int .i64 H, .slice A n c] 26).alloc (.cells #[.int .i64 W', .int .i64 H', .slice A' n' c'] 26)
  have hzz : w.heap.size + 2 ≤ ((w.alloc (.cells #[.int .i64 W, .int .i64 H, .slice A n c] 26)).alloc (.cells #[.int .i64 W', .int .i64 H', .slice A' n' c'] 26)).heap.size := by simp
  clear h h'
  cases hok : okX W H xs W' H' ys d a with
  | false =>
    have HX := Lib.hid (rwX_no hok)
    go_enter Try.func11, Try.ntmps11
    go_wp2_with fail
    refine (wrongPlaces_any W H A n c B xs W' H' A' n' c' B' ys d a _ h1 (by simp; omega) h2 (by simp; omega)).mono ?_
    rintro e w1 ⟨A1, c1, rfl, own1, hb⟩
    rw [hok]
    go_wp2
    go_ret2
    rw [HX.out]
    exact ⟨none, 0, rfl, Own.nil _ _, HB.out.trans (hb.mono (by omega))⟩
  | true =>
    obtain ⟨m, k, rfl, rfl, hm, hm8, hk1, hk8, _, _, _, _⟩ := good_nat (okX_of hok).1
    have HIN := Lib.hid (fun p => wrX_in (W := m) (H := k) (W' := W') (H' := H') (d := d) (a := a) (xs := xs) (ys := ys) (p := p))
    have h64 : (wrX m k xs W' H' ys d a).length ≤ 64 := wrX_len
    have HX := Lib.hid (show rwX m k xs W' H' ys d a = rowsOf m k (wrX m k xs W' H' ys d a) by unfold rwX; rw [if_pos hok]; simp)
    go_enter Try.func11, Try.ntmps11
    go_wp2_with fail
    refine (wrongPlaces_any m k A n c B xs W' H' A' n' c' B' ys d a _ h1 (by simp; omega) h2 (by simp; omega)).mono ?_
    rintro e w1 ⟨A1, c1, rfl, own1, hb⟩
    rw [hok]
    have y1 := y0.all hb
    have hz1 := Nat.le_trans hzz hb.size
    replace HB := Lib.hid (HB.out.trans (hb.mono (by omega)))
    obtain ⟨L, HL⟩ : ∃ L, Hid (wrX m k xs W' H' ys d a = L) := ⟨_, rfl⟩
    rw [show wrX m k xs W' H' ys d a = L from HL.out] at own1 HIN h64 HX ⊢
    clear hb h1 h2 y0 hzz hok
    have e1 := y1.cell 1
    have hk4 : k ≤ 4000 := by omega
    have oM : Own (w1.alloc (.cells (madeCells #[.int .i64 0] k) 3)) w1.heap.size (.slice (some ⟨w1.heap.size, 0, none⟩) k k) (List.replicate k 0) := own_made rfl (Nat.le_refl _) hk4
    have yM := y1.alloc (.cells (madeCells #[.int .i64 0] k) 3)
    have hBM := (Below.refl w1.heap.size w1).alloc (Nat.le_refl _) (.cells (madeCells #[.int .i64 0] k) 3)
    have hmk := mkI w1 k hk4
    rw [← rowsOf_nil m k] at oM
    go_wp2
    generalize w1.alloc (.cells (madeCells #[.int .i64 0] k) 3) = W2 at *
    clear e1
    generalize hP : w1.heap.size = P at *
    go_loopw [32] (fun s32 wr => ∃ (j : Nat), j ≤ L.length ∧ s32 = .int .i64 j ∧ Own wr P (.slice (some ⟨P, 0, none⟩) k k) (rowsOf m k (L.take j)) ∧ Hid (Below P w1 wr)) (fun s32 _ => L.length - (intOf s32).toNat)
    case atStart => exact ⟨0, Nat.zero_le _, rfl, by rw [List.take_zero]; exact oM, Lib.hid hBM⟩
    case round =>
      clear oM yM hBM
      obtain ⟨j, hj, rfl, ho, HBw⟩ := hrel
      by_cases hlt : j < L.length
      · have hR := own1.below HBw.out (fun q hq => by rw [← hP]; exact (own1.bd q hq).2)
        have hp : L[j]? = some (L[j]'hlt) := List.getElem?_eq_getElem hlt
        obtain ⟨p, hpe⟩ : ∃ p, L[j]'hlt = p := ⟨_, rfl⟩
        rw [hpe] at hp
        obtain ⟨m', k', hm', hk', _, _, hp64, _, hpk⟩ := HIN.out p (List.mem_of_getElem? hp)
        obtain rfl : m' = m := by omega
        obtain rfl : k' = k := by omega
        obtain ⟨g, rfl, hg1, hg2⟩ := hR.some_ (by rw [upN_len]; omega)
        have f0 := own_at hR (j := j) (by rw [upN_len]; exact hlt) (upN_get hp)
        obtain ⟨x, hx⟩ : ∃ x : Nat, (rowsOf m' k' (L.take j)).getD (p / m') 0 = (x : Int) := ⟨_, rowsOf_get hpk⟩
        have hxl : x ≤ 64 := by
          rw [rowsOf_get hpk] at hx
          have := List.countP_le_length (l := L.take j) (p := fun p => decide (p / m' = p / m'))
          have h2 := List.countP_le_length (l := L.take j) (p := fun q => decide (q / m' = p / m'))
          have h3 := List.length_take_le j L
          omega
        have HS := Lib.hid (rowsOf_step hpk hx)
        rw [show L.take j ++ [p] = L.take (j + 1) by rw [List.take_succ_eq_append_getElem hlt, hpe]] at HS
        obtain ⟨u, v, hu0, _, hu, _, hm0, hq, _, hwu, hwu', _⟩ := knot_facts (p := p) hm hm8 hp64
        rw [hu0.out] at HS hx hpk
        have f1 := own_at ho (j := u) (by rw [rowsOf_len]; exact hpk) hx
        have hc1 := hR.rd.cap
        have y2 := y1.below HBw.out (by omega)
        have e0 := y2.cell 0
        have hmn : ¬ m' = 0 := by omega
        obtain ⟨hf, H2, H3⟩ := own_put ho u ((x : Int) + 1) ⟨by omega, by omega⟩
        have hbN := Lib.hid (HBw.out.setCell (p := ⟨P, u, none⟩) (Nat.le_refl _) (.int .i64 ((x : Int) + 1)))
        rw [HS.out] at H2
        clear hp hpe hR hx hu0 HS
        go_wp2
        go_roundw
        case rel => exact ⟨j + 1, hlt, by go_num, H2, hbN⟩
        case measure => simp [intOf]; omega
      · have HF := Lib.hid (show rwX m k xs W' H' ys d a = rowsOf m k (L.take j) by rw [HX.out, List.take_of_length_le (by omega)])
        have HLL := Lib.hid (rowsOf_len m k (L.take j))
        go_wp2
        go_ret2
        rw [HF.out]
        refine ⟨some ⟨P, 0, none⟩, k, by rw [HLL.out]; rfl, ?_, HB.out.trans (HBw.out.mono (by omega))⟩
        rw [HLL.out]
        exact ho.mono (by omega)
end Go.Proofs.Ytgkflgfjbaobcaa
