/- The walks of HasSymmetry and SymmetriesOf, the program's and the model's. No condition. -/
import Derived.Test.YtihgobceahfpiaaSame
namespace Go.Proofs.Ytihgobceahfpiaa
open Go.RowKit

def hasB (W H : Int) (xs : List Int) (s : Int) : Bool := moveOk W H xs s && (⟨W.toNat, H.toNat, xs⟩ : Pic).same s.toNat
theorem ret2_bb {a a' b b' : Bool} (h : a = a') (h' : b = b') : Ending.returned (.tuple #[.bool a, .bool b]) = .returned (.tuple #[.bool a', .bool b']) := by rw [h, h']
theorem same_len {p : Pic} (h : p.Ok) (s : Nat) : (p.move s).m = p.m → (p.move s).k = p.k → (p.move s).xs.length = p.xs.length := fun e1 e2 => by
  rw [(h.move s).2.2.2.2, e1, e2, h.2.2.2.2]
set_option maxRecDepth 100000 in
set_option maxHeartbeats 1000000 in
theorem implHasSymmetry_any (W H : Int) (A : Option Addr) (n c B : Nat) (xs : List Int) (s : Int) (w : World) (hR : Rd w B A n c xs) (hB : B ≤ w.heap.size) :
    Calls Try.prog 41 #[chartV W H (.slice A n c), .int .i64 s] w (Out w (.tuple #[.bool (hasB W H xs s), .bool (moveOk W H xs s)])) := by
  have hb0 := Lib.hid ((Below.refl w.heap.size w).alloc (Nat.le_refl _) (.cells #[.int .i64 W, .int .i64 H, .slice A n c] 26))
  have h' := Lib.hid (hR.alloc hB (.cells #[.int .i64 W, .int .i64 H, .slice A n c] 26))
  have x0 := Blk.new w #[.int .i64 W, .int .i64 H, .slice A n c] 26
  by_cases h : moveOk W H xs s = true
  · obtain ⟨hg, hq⟩ := move_yes h
    obtain ⟨m, k, rfl, rfl, m1, m8, k1, k8, hl, h64, hl1, _⟩ := good_nat hg
    obtain ⟨s, rfl, hs7⟩ := isSymB_yes hq
    have hpok := move_pic hg
    obtain ⟨d, HDD⟩ : ∃ d, Hid (decide (((⟨m, k, xs⟩ : Pic).move s).m = m ∧ ((⟨m, k, xs⟩ : Pic).move s).k = k ∧ ((⟨m, k, xs⟩ : Pic).move s).xs = xs) = d) := ⟨_, rfl⟩
    have HV := Lib.hid (show hasB m k xs s = (⟨m, k, xs⟩ : Pic).same s ∧ moveOk m k xs s = true from ⟨by simp [hasB, h], h⟩)
    clear h
    obtain rfl := hR.len
    obtain ⟨b, off, rfl, _, _⟩ := hR.cells (by omega)
    clear hR
    go_enter Try.func41, Try.ntmps41
    go_wp2_with fail
    refine (implIsChart_any m k _ _ c B xs _ h'.out (by simp; omega)).mono ?_
    rintro e w1 ⟨rfl, hb⟩
    have x1 := x0.all hb
    have R1 := h'.out.all hb (by simp; omega)
    have HB := Lib.hid (hb0.out.trans (hb.mono (by simp)))
    have hz := x1.lt
    have hz1 : w.heap.size ≤ w1.heap.size := Nat.le_of_lt hz
    have hz3 : B ≤ w1.heap.size := Nat.le_trans hB hz1
    have e0 := x1.cell 0
    have e1 := x1.cell 1
    have e2 := x1.cell 2
    clear hb x0 h' hb0
    rw [hg]
    go_wp2_with (go_at_call 75; (with_reducible refine (isSymmetry_any _ _).mono ?_); rintro e w' ⟨rfl, rfl⟩)
    refine (isSameAfter_eq ⟨m, k, xs⟩ b off c B s _ R1 hz3 hpok hs7).mono ?_
    rintro e w2 ⟨rfl, hb2⟩
    have HB2 := Lib.hid (HB.out.trans (hb2.mono hz1))
    clear hb2
    go_wp2
    go_ret2
    exact ⟨ret2_bb HV.out.1.symm HV.out.2.symm, HB2.out⟩
  · have HV := Lib.hid (show hasB W H xs s = false ∧ moveOk W H xs s = false from ⟨by simp [hasB, not_false h], not_false h⟩)
    rcases move_no h with hg | ⟨hg, hq⟩
    all_goals
      clear h
      go_enter Try.func41, Try.ntmps41
      go_wp2_with fail
      refine (implIsChart_any W H A n c B xs _ h'.out (by simp; omega)).mono ?_
      rintro e w1 ⟨rfl, hb⟩
      have HB := Lib.hid (hb0.out.trans (hb.mono (by simp)))
      clear hb x0
      rw [hg]
      go_wp2_with (go_at_call 75; (with_reducible refine (isSymmetry_any _ _).mono ?_); rintro e w' ⟨rfl, rfl⟩)
      go_ret2
      exact ⟨ret2_bb HV.out.1.symm HV.out.2.symm, HB.out⟩
set_option maxRecDepth 100000 in
set_option maxHeartbeats 1000000 in
theorem specHasSymmetry_any (W H : Int) (A : Option Addr) (n c B : Nat) (xs : List Int) (s : Int) (w : World) (hR : Rd w B A n c xs) (hB : B ≤ w.heap.size) :
    Calls Try.prog 43 #[chartV W H (.slice A n c), .int .i64 s] w (Out w (.tuple #[.bool (hasB W H xs s), .bool (moveOk W H xs s)])) := by
  have hb0 := Lib.hid ((Below.refl w.heap.size w).alloc (Nat.le_refl _) (.cells #[.int .i64 W, .int .i64 H, .slice A n c] 26))
  have h' := Lib.hid (hR.alloc hB (.cells #[.int .i64 W, .int .i64 H, .slice A n c] 26))
  have x0 := Blk.new w #[.int .i64 W, .int .i64 H, .slice A n c] 26
  by_cases h : moveOk W H xs s = true
  · obtain ⟨hg, hq⟩ := move_yes h
    obtain ⟨m, k, rfl, rfl, m1, m8, k1, k8, hl, h64, hl1, _⟩ := good_nat hg
    obtain ⟨s, rfl, hs7⟩ := isSymB_yes hq
    have hpok := move_pic hg
    obtain ⟨d, HDD⟩ : ∃ d, Hid (decide (((⟨m, k, xs⟩ : Pic).move s).m = m ∧ ((⟨m, k, xs⟩ : Pic).move s).k = k ∧ ((⟨m, k, xs⟩ : Pic).move s).xs = xs) = d) := ⟨_, rfl⟩
    have HV := Lib.hid (show hasB m k xs s = d ∧ moveOk m k xs s = true from ⟨by rw [← HDD.out]; simp [hasB, h, Pic.same], h⟩)
    clear h
    obtain rfl := hR.len
    obtain ⟨b, off, rfl, _, _⟩ := hR.cells (by omega)
    clear hR
    go_enter Try.func43, Try.ntmps43
    go_wp2_with fail
    refine (l2Good_any m k _ _ c B xs _ h'.out (by simp; omega)).mono ?_
    rintro e w1 ⟨rfl, hb⟩
    have x1 := x0.all hb
    have R1 := h'.out.all hb (by simp; omega)
    have HB := Lib.hid (hb0.out.trans (hb.mono (by simp)))
    have hz := x1.lt
    have hz1 : w.heap.size ≤ w1.heap.size := Nat.le_of_lt hz
    have hz3 : B ≤ w1.heap.size := Nat.le_trans hB hz1
    have e0 := x1.cell 0
    have e1 := x1.cell 1
    have e2 := x1.cell 2
    clear hb x0 h' hb0
    rw [hg]
    go_wp2_with (go_at_call 79; (with_reducible refine (l4Symmetry_any _ _).mono ?_); rintro e w' ⟨rfl, rfl⟩)
    have HSL := Lib.hid (same_len hpok s)
    have R1d := R1.drew
    have hz3d : B ≤ w1.drew.heap.size := hz3
    go_region_held3 (fun w' => w'.cell? ⟨w.heap.size, 0, none⟩ = some (.int .i64 m) ∧ w'.cell? ⟨w.heap.size, 1, none⟩ = some (.int .i64 k) ∧ w'.cell? ⟨w.heap.size, 2, none⟩ = some (.slice (some ⟨b, off, none⟩) xs.length c)) (first | exact ⟨e0, e1, e2⟩ | go_keep) (first | (go_at_call 74; (with_reducible refine (l4Move_any m k b off c B s xs _ R1d hz3d hpok hs7).mono ?_); rintro e w3 ⟨A3, c3, rfl, own3, hb3⟩; (try replace hb3 := below_drew' hb3); have R3 := R1.all hb3 hz3; have HB3 := Lib.hid (HB.out.trans (hb3.mono hz1)); have hz4 : B ≤ w3.heap.size := Nat.le_trans hz3 hb3.size; have hz7 : w.heap.size ≤ w3.heap.size := Nat.le_trans hz1 hb3.size; replace e0 := cells_of hb3 e0 hz; replace e1 := cells_of hb3 e1 hz; replace e2 := cells_of hb3 e2 hz; have hz8 : w.heap.size < w3.heap.size := Nat.lt_of_lt_of_le hz hb3.size; clear hb3) | (go_at_call 73; (with_reducible refine (l4Same_eq m k _ _ _ c _ c3 B _ _ _ xs _ _ R3 own3.rd hz4 (Nat.le_refl _) HSL.out d HDD.out).mono ?_); rintro e w4 ⟨rfl, hb4⟩; have HB4 := Lib.hid (HB3.out.trans (hb4.mono hz7)); replace e0 := cells_of hb4 e0 hz8; replace e1 := cells_of hb4 e1 hz8; replace e2 := cells_of hb4 e2 hz8; clear hb4))
    go_wp2
    go_ret2
    exact ⟨ret2_bb HV.out.1.symm HV.out.2.symm, HB4.out⟩
  · have HV := Lib.hid (show hasB W H xs s = false ∧ moveOk W H xs s = false from ⟨by simp [hasB, not_false h], not_false h⟩)
    rcases move_no h with hg | ⟨hg, hq⟩
    all_goals
      clear h
      go_enter Try.func43, Try.ntmps43
      go_wp2_with fail
      refine (l2Good_any W H A n c B xs _ h'.out (by simp; omega)).mono ?_
      rintro e w1 ⟨rfl, hb⟩
      have HB := Lib.hid (hb0.out.trans (hb.mono (by simp)))
      clear hb x0
      rw [hg]
      go_wp2_with (go_at_call 79; (with_reducible refine (l4Symmetry_any _ _).mono ?_); rintro e w' ⟨rfl, rfl⟩)
      go_ret2
      exact ⟨ret2_bb HV.out.1.symm HV.out.2.symm, HB.out⟩
/-- The symmetries below j that a chart has. -/
def symsTo (p : Pic) (j : Nat) : List Int := ((List.range j).filter fun s => p.same s).map fun s : Nat => (s : Int)
theorem symsTo_yes {p : Pic} {j : Nat} (h : p.same j = true) : symsTo p (j + 1) = symsTo p j ++ [(j : Int)] := by
  simp [symsTo, List.range_succ, h]
theorem symsTo_no {p : Pic} {j : Nat} (h : p.same j = false) : symsTo p (j + 1) = symsTo p j := by
  simp [symsTo, List.range_succ, h]
theorem symsTo_len (p : Pic) (j : Nat) : (symsTo p j).length ≤ j := by
  simp only [symsTo, List.length_map]
  exact Nat.le_trans (List.length_filter_le _ _) (by simp)
def symsX (W H : Int) (xs : List Int) : List Int := if goodB W H xs = true then symsTo ⟨W.toNat, H.toNat, xs⟩ 8 else []
theorem symsX_len (W H : Int) (xs : List Int) : (symsX W H xs).length ≤ 1048576 := by
  unfold symsX
  split
  · have := symsTo_len ⟨W.toNat, H.toNat, xs⟩ 8
    omega
  · simp
set_option maxRecDepth 100000 in
set_option maxHeartbeats 4000000 in
theorem implSymmetriesOf_any (W H : Int) (A : Option Addr) (n c B : Nat) (xs : List Int) (w : World) (hR : Rd w B A n c xs) (hB : B ≤ w.heap.size) :
    Calls Try.prog 22 #[chartV W H (.slice A n c)] w (OutInts w (symsX W H xs) (goodB W H xs)) := by
  have hb0 := Lib.hid ((Below.refl w.heap.size w).alloc (Nat.le_refl _) (.cells #[.int .i64 W, .int .i64 H, .slice A n c] 26))
  have h' := Lib.hid (hR.alloc hB (.cells #[.int .i64 W, .int .i64 H, .slice A n c] 26))
  have x0 := Blk.new w #[.int .i64 W, .int .i64 H, .slice A n c] 26
  by_cases hg : goodB W H xs = true
  · rw [show symsX W H xs = symsTo ⟨W.toNat, H.toNat, xs⟩ 8 from if_pos hg, hg]
    obtain ⟨m, k, rfl, rfl, m1, m8, k1, k8, hl, h64, hl1, _⟩ := good_nat hg
    have hpok := move_pic hg
    simp only [Int.toNat_natCast]
    obtain rfl := hR.len
    obtain ⟨b, off, rfl, _, _⟩ := hR.cells (by omega)
    clear hR
    go_enter Try.func22, Try.ntmps22
    go_wp2_with fail
    refine (implIsChart_any m k _ _ c B xs _ h'.out (by simp; omega)).mono ?_
    rintro e w1 ⟨rfl, hb⟩
    have x1 := x0.all hb
    have R1 := h'.out.all hb (by simp; omega)
    have HB := Lib.hid (hb0.out.trans (hb.mono (by simp)))
    clear hb x0 h' hb0
    rw [hg]
    go_wp2
    go_loopw [9, 5, 4] (fun i i5 i4 wr => ∃ (j : Nat) (A' : Option Addr) (n' c' : Nat), j ≤ 8 ∧ i = .int .i64 j ∧ i4 = .slice A' n' c' ∧ n' = (symsTo ⟨m, k, xs⟩ j).length ∧ Own wr w.heap.size (.slice A' n' c') (symsTo ⟨m, k, xs⟩ j) ∧
        Blk wr w.heap.size 26 #[.int .i64 m, .int .i64 k, .slice (some ⟨b, off, none⟩) xs.length c] ∧ Rd wr B (some ⟨b, off, none⟩) xs.length c xs ∧ Below w.heap.size w wr)
      (fun i _ _ _ => 8 - (intOf i).toNat)
    case atStart => exact ⟨0, none, 0, 0, by omega, rfl, rfl, rfl, Own.nil _ _, x1, R1, HB.out⟩
    case round =>
      obtain ⟨j, A', n', c', hj, rfl, rfl, hn', ho, x2, R2, hbl⟩ := hrel
      have HB2 := Lib.hid hbl
      have hz1 : w.heap.size ≤ wr.heap.size := hbl.size
      have hz := x2.lt
      have hz3 : B ≤ wr.heap.size := Nat.le_trans hB hz1
      have HN := Lib.hid hn'
      have e0 := x2.cell 0
      have e1 := x2.cell 1
      have e2 := x2.cell 2
      clear hbl x1 R1 HB hn'
      by_cases hlt : j < 8
      · by_cases hd : (⟨m, k, xs⟩ : Pic).same j = true
        · have HS := Lib.hid (symsTo_yes hd)
          have hlen := symsTo_len ⟨m, k, xs⟩ j
          have HD := Lib.hid (show (⟨m, k, xs⟩ : Pic).same j = true from hd)
          clear hd
          go_wp2_with fail
          refine (isSameAfter_eq ⟨m, k, xs⟩ b off c B j _ R2 hz3 hpok (by omega)).mono ?_
          rintro e w4 ⟨rfl, hb4⟩
          rw [HD.out]
          have x4 := x2.all hb4
          have R4 := R2.all hb4 hz3
          have o4 := ho.all hb4
          have HB4 := Lib.hid (HB2.out.trans (hb4.mono hz1))
          have hz4 : w.heap.size ≤ w4.heap.size := Nat.le_trans hz1 hb4.size
          clear hb4 x2 R2 ho HB2 e0 e1 e2
          obtain rfl := HN.out
          go_wp2_with (at_builtin; refine wpList_append_one w4 rfl (.tmp 15) (.tmp 17) 24 rfl Try.underlying24 info_int w.heap.size _ _ (j : Int) rfl rfl o4 (by omega) ⟨by omega, by omega⟩ hz4 ?_)
          intro A5 c5 w5 o5 hg5
          rw [← HS.out] at o5
          have hl5 : (symsTo ⟨m, k, xs⟩ j).length + 1 = (symsTo ⟨m, k, xs⟩ (j + 1)).length := by rw [HS.out]; simp
          have x5 := x4.mark hg5 (row_ne o4.1 x4 (by decide))
          have R5 := R4.mark hg5 (fun q hq => Nat.le_trans hB (o4.bd q hq).1) (Nat.le_trans hB hz4)
          have HB5 := Lib.hid (HB4.out.grown hg5 hz4 (fun q hq => (o4.bd q hq).1))
          have HL5 := Lib.hid hl5
          clear hl5
          go_wp2
          go_roundw
          case rel => exact ⟨j + 1, A5, _, c5, by omega, by go_num, rfl, HL5.out, o5, x5, R5, HB5.out⟩
          case measure => simp [intOf]; omega
        · have HS := Lib.hid (symsTo_no (not_false hd))
          have HD := Lib.hid (show (⟨m, k, xs⟩ : Pic).same j = false from not_false hd)
          clear hd
          go_wp2_with fail
          refine (isSameAfter_eq ⟨m, k, xs⟩ b off c B j _ R2 hz3 hpok (by omega)).mono ?_
          rintro e w4 ⟨rfl, hb4⟩
          rw [HD.out]
          have x4 := x2.all hb4
          have R4 := R2.all hb4 hz3
          have o4 := ho.all hb4
          have HB4 := Lib.hid (HB2.out.trans (hb4.mono hz1))
          have hz4 : w.heap.size ≤ w4.heap.size := Nat.le_trans hz1 hb4.size
          clear hb4 x2 R2 ho HB2 e0 e1 e2
          rw [← HS.out] at o4
          go_wp2
          go_roundw
          case rel => exact ⟨j + 1, A', n', c', by omega, by go_num, rfl, by rw [HN.out, HS.out], o4, x4, R4, HB4.out⟩
          case measure => simp [intOf]; omega
      · obtain rfl : j = 8 := by omega
        obtain rfl := HN.out
        go_wp2
        go_ret2
        exact ⟨A', c', rfl, ho, HB2.out⟩
  · rw [show symsX W H xs = [] from if_neg hg, not_false hg]
    have hg' := not_false hg
    go_enter Try.func22, Try.ntmps22
    go_wp2_with fail
    refine (implIsChart_any W H A n c B xs _ h'.out (by simp; omega)).mono ?_
    rintro e w1 ⟨rfl, hb⟩
    have HB := Lib.hid (hb0.out.trans (hb.mono (by simp)))
    clear hb x0
    rw [hg']
    go_wp2
    go_ret2
    exact ⟨none, 0, rfl, Own.nil _ _, HB.out⟩
set_option maxRecDepth 100000 in
set_option maxHeartbeats 4000000 in
theorem specSymmetriesOf_any (W H : Int) (A : Option Addr) (n c B : Nat) (xs : List Int) (w : World) (hR : Rd w B A n c xs) (hB : B ≤ w.heap.size) :
    Calls Try.prog 23 #[chartV W H (.slice A n c)] w (OutInts w (symsX W H xs) (goodB W H xs)) := by
  have hb0 := Lib.hid (((Below.refl w.heap.size w).alloc (Nat.le_refl _) (.cells #[.int .i64 W, .int .i64 H, .slice A n c] 26)).alloc (by simp) (.cells #[] 3))
  have h' := Lib.hid ((hR.alloc hB (.cells #[.int .i64 W, .int .i64 H, .slice A n c] 26)).alloc (by simp; omega) (.cells #[] 3))
  have x0 := (Blk.new w #[.int .i64 W, .int .i64 H, .slice A n c] 26).alloc (.cells #[] 3)
  have o0 : Own ((w.alloc (.cells #[.int .i64 W, .int .i64 H, .slice A n c] 26)).alloc (.cells #[] 3)) w.heap.size (.slice (some ⟨w.heap.size + 1, 0, none⟩) 0 0) [] := by simpa using (Own.empty (w := w.alloc (.cells #[.int .i64 W, .int .i64 H, .slice A n c] 26)) (lo := w.heap.size) (by simp))
  by_cases hg : goodB W H xs = true
  · rw [show symsX W H xs = symsTo ⟨W.toNat, H.toNat, xs⟩ 8 from if_pos hg, hg]
    obtain ⟨m, k, rfl, rfl, m1, m8, k1, k8, hl, h64, hl1, _⟩ := good_nat hg
    have hpok := move_pic hg
    simp only [Int.toNat_natCast]
    obtain rfl := hR.len
    obtain ⟨b, off, rfl, _, _⟩ := hR.cells (by omega)
    clear hR
    go_enter Try.func23, Try.ntmps23
    go_wp2_with fail
    refine (l2Good_any m k _ _ c B xs _ h'.out (by simp; omega)).mono ?_
    rintro e w1 ⟨rfl, hb⟩
    have x1 := x0.all hb
    have R1 := h'.out.all hb (by simp; omega)
    have HB := Lib.hid (hb0.out.trans (hb.mono (by simp; omega)))
    have o1 := o0.all hb
    clear hb x0 h' hb0 o0
    rw [hg]
    go_wp2
    go_loopw [5, 4] (fun i i4 wr => ∃ (j : Nat) (A' : Option Addr) (n' c' : Nat), j ≤ 8 ∧ i = .int .i64 j ∧ i4 = .slice A' n' c' ∧ n' = (symsTo ⟨m, k, xs⟩ j).length ∧ Own wr w.heap.size (.slice A' n' c') (symsTo ⟨m, k, xs⟩ j) ∧
        Blk wr w.heap.size 26 #[.int .i64 m, .int .i64 k, .slice (some ⟨b, off, none⟩) xs.length c] ∧ Rd wr B (some ⟨b, off, none⟩) xs.length c xs ∧ Below w.heap.size w wr)
      (fun i _ _ => 8 - (intOf i).toNat)
    case atStart => exact ⟨0, _, 0, 0, by omega, rfl, rfl, rfl, o1, x1, R1, HB.out⟩
    case round =>
      obtain ⟨j, A', n', c', hj, rfl, rfl, hn', ho, x2, R2, hbl⟩ := hrel
      have HB2 := Lib.hid hbl
      have hz1 : w.heap.size ≤ wr.heap.size := hbl.size
      have hz := x2.lt
      have hz3 : B ≤ wr.heap.size := Nat.le_trans hB hz1
      have HN := Lib.hid hn'
      have e0 := x2.cell 0
      have e1 := x2.cell 1
      have e2 := x2.cell 2
      clear hbl x1 R1 HB hn' o1
      by_cases hlt : j < 8
      · by_cases hd : (⟨m, k, xs⟩ : Pic).same j = true
        · have HS := Lib.hid (symsTo_yes hd)
          have hlen := symsTo_len ⟨m, k, xs⟩ j
          have HD := Lib.hid (show (⟨m, k, xs⟩ : Pic).same j = true from hd)
          clear hd
          have hj7 : j ≤ 7 := by omega
          have HSL := Lib.hid (same_len hpok j)
          have HDD : Hid (decide (((⟨m, k, xs⟩ : Pic).move j).m = m ∧ ((⟨m, k, xs⟩ : Pic).move j).k = k ∧ ((⟨m, k, xs⟩ : Pic).move j).xs = xs) = true) := HD
          have R2d := R2.drew
          have hz3d : B ≤ wr.drew.heap.size := hz3
          go_wp2
          go_region_held3 (fun w' => w'.cell? ⟨w.heap.size, 0, none⟩ = some (.int .i64 m) ∧ w'.cell? ⟨w.heap.size, 1, none⟩ = some (.int .i64 k) ∧ w'.cell? ⟨w.heap.size, 2, none⟩ = some (.slice (some ⟨b, off, none⟩) xs.length c)) (first | exact ⟨e0, e1, e2⟩ | go_keep) (first | (go_at_call 74; (with_reducible refine (l4Move_any m k b off c B j xs _ R2d hz3d hpok hj7).mono ?_); rintro e w3 ⟨A3, c3, rfl, own3, hb3⟩; (try replace hb3 := below_drew' hb3); have R3 := R2.all hb3 hz3; have HB3 := Lib.hid (HB2.out.trans (hb3.mono hz1)); have x3 := x2.all hb3; have o3 := ho.all hb3; have hz4 : B ≤ w3.heap.size := Nat.le_trans hz3 hb3.size; have hz7 : w.heap.size ≤ w3.heap.size := Nat.le_trans hz1 hb3.size; replace e0 := cells_of hb3 e0 hz; replace e1 := cells_of hb3 e1 hz; replace e2 := cells_of hb3 e2 hz; have hz8 : w.heap.size < w3.heap.size := Nat.lt_of_lt_of_le hz hb3.size; clear hb3) | (go_at_call 73; (with_reducible refine (l4Same_eq m k _ _ _ c _ c3 B _ _ _ xs _ _ R3 own3.rd hz4 (Nat.le_refl _) HSL.out true HDD.out).mono ?_); rintro e w4 ⟨rfl, hb4⟩; have HB4 := Lib.hid (HB3.out.trans (hb4.mono hz7)); have R4 := R3.all hb4 hz4; have x4 := x3.all hb4; have o4 := o3.all hb4; have hz9 : w.heap.size ≤ w4.heap.size := Nat.le_trans hz7 hb4.size; replace e0 := cells_of hb4 e0 hz8; replace e1 := cells_of hb4 e1 hz8; replace e2 := cells_of hb4 e2 hz8; clear hb4))
          clear x2 R2 ho HB2 e0 e1 e2 x3 R3 o3 HB3 own3
          have hz4b : w.heap.size ≤ w4.heap.size := hz9
          obtain rfl := HN.out
          go_wp2_with (at_builtin; refine wpList_append_one w4 rfl (.tmp 20) (.tmp 22) 24 rfl Try.underlying24 info_int w.heap.size _ _ (j : Int) rfl rfl o4 (by omega) ⟨by omega, by omega⟩ hz9 ?_)
          intro A5 c5 w5 o5 hg5
          rw [← HS.out] at o5
          have hl5 : (symsTo ⟨m, k, xs⟩ j).length + 1 = (symsTo ⟨m, k, xs⟩ (j + 1)).length := by rw [HS.out]; simp
          have x5 := x4.mark hg5 (row_ne o4.1 x4 (by decide))
          have R5 := R4.mark hg5 (fun q hq => Nat.le_trans hB (o4.bd q hq).1) (Nat.le_trans hB hz9)
          have HB5 := Lib.hid (HB4.out.grown hg5 hz9 (fun q hq => (o4.bd q hq).1))
          have HL5 := Lib.hid hl5
          clear hl5
          go_wp2
          go_roundw
          case rel => exact ⟨j + 1, A5, _, c5, by omega, by go_num, rfl, HL5.out, o5, x5, R5, HB5.out⟩
          case measure => simp [intOf]; omega
        · have HS := Lib.hid (symsTo_no (not_false hd))
          have HD := Lib.hid (show (⟨m, k, xs⟩ : Pic).same j = false from not_false hd)
          clear hd
          have hj7 : j ≤ 7 := by omega
          have HSL := Lib.hid (same_len hpok j)
          have HDD : Hid (decide (((⟨m, k, xs⟩ : Pic).move j).m = m ∧ ((⟨m, k, xs⟩ : Pic).move j).k = k ∧ ((⟨m, k, xs⟩ : Pic).move j).xs = xs) = false) := HD
          have R2d := R2.drew
          have hz3d : B ≤ wr.drew.heap.size := hz3
          go_wp2
          go_region_held3 (fun w' => w'.cell? ⟨w.heap.size, 0, none⟩ = some (.int .i64 m) ∧ w'.cell? ⟨w.heap.size, 1, none⟩ = some (.int .i64 k) ∧ w'.cell? ⟨w.heap.size, 2, none⟩ = some (.slice (some ⟨b, off, none⟩) xs.length c)) (first | exact ⟨e0, e1, e2⟩ | go_keep) (first | (go_at_call 74; (with_reducible refine (l4Move_any m k b off c B j xs _ R2d hz3d hpok hj7).mono ?_); rintro e w3 ⟨A3, c3, rfl, own3, hb3⟩; (try replace hb3 := below_drew' hb3); have R3 := R2.all hb3 hz3; have HB3 := Lib.hid (HB2.out.trans (hb3.mono hz1)); have x3 := x2.all hb3; have o3 := ho.all hb3; have hz4 : B ≤ w3.heap.size := Nat.le_trans hz3 hb3.size; have hz7 : w.heap.size ≤ w3.heap.size := Nat.le_trans hz1 hb3.size; replace e0 := cells_of hb3 e0 hz; replace e1 := cells_of hb3 e1 hz; replace e2 := cells_of hb3 e2 hz; have hz8 : w.heap.size < w3.heap.size := Nat.lt_of_lt_of_le hz hb3.size; clear hb3) | (go_at_call 73; (with_reducible refine (l4Same_eq m k _ _ _ c _ c3 B _ _ _ xs _ _ R3 own3.rd hz4 (Nat.le_refl _) HSL.out false HDD.out).mono ?_); rintro e w4 ⟨rfl, hb4⟩; have HB4 := Lib.hid (HB3.out.trans (hb4.mono hz7)); have R4 := R3.all hb4 hz4; have x4 := x3.all hb4; have o4 := o3.all hb4; have hz9 : w.heap.size ≤ w4.heap.size := Nat.le_trans hz7 hb4.size; replace e0 := cells_of hb4 e0 hz8; replace e1 := cells_of hb4 e1 hz8; replace e2 := cells_of hb4 e2 hz8; clear hb4))
          clear x2 R2 ho HB2 e0 e1 e2 x3 R3 o3 HB3 own3
          have hz4b : w.heap.size ≤ w4.heap.size := hz9
          rw [← HS.out] at o4
          go_wp2
          go_roundw
          case rel => exact ⟨j + 1, A', n', c', by omega, by go_num, rfl, by rw [HN.out, HS.out], o4, x4, R4, HB4.out⟩
          case measure => simp [intOf]; omega
      · obtain rfl : j = 8 := by omega
        obtain rfl := HN.out
        go_wp2
        go_ret2
        exact ⟨A', c', rfl, ho, HB2.out⟩
  · rw [show symsX W H xs = [] from if_neg hg, not_false hg]
    have hg' := not_false hg
    go_enter Try.func23, Try.ntmps23
    go_wp2_with fail
    refine (l2Good_any W H A n c B xs _ h'.out (by simp; omega)).mono ?_
    rintro e w1 ⟨rfl, hb⟩
    have HB := Lib.hid (hb0.out.trans (hb.mono (by simp; omega)))
    have o1 := o0.all hb
    clear hb x0
    rw [hg']
    go_wp2
    go_ret2
    exact ⟨_, 0, rfl, o1, HB.out⟩
end Go.Proofs.Ytihgobceahfpiaa
