/- Several texts of this proof in one: RepeatsMath, SameN, HasSymN, FnRepMath, PairEq. No condition. -/
import Derived.Test.YtimindgefceibaaTileMath
import Derived.Test.YtimindgefceibaaPlaceMath
import Derived.Test.YtimindgefceibaaSymMath
import Derived.Test.YtimindgefceibaaMgPlaces
import Derived.Test.YtimindgefceibaaRepImpl
import Derived.Test.YtimindgefceibaaMirImpl
import Derived.Test.YtimindgefceibaaMgPj
import Derived.ChangeKeysEq
namespace Go.Proofs.Ytimindgefceibaa

theorem firstP_min {g : Nat → Bool} {q : Nat} (hq : g q = true) : ∀ n p, p ≤ q → firstP g n p ≤ q
  | 0, _, h => h
  | n + 1, p, h => by
    rw [firstP]
    split
    · exact h
    · rename_i hg
      have : p ≠ q := fun e => hg (e ▸ hq)
      exact firstP_min hq n (p + 1) (by omega)
section
variable {m k a d : Nat} {xs : List Int}
theorem rep_elt {i j : Nat} (hi : i < d * k) (hj : j < a * m) : elt (a * m) (repL m k xs a d) i j = elt m xs (i % k) (j % m) := gridL_get (f := fun i j => elt m xs (i % k) (j % m)) hi hj
theorem divA_rep (m1 : 1 ≤ m) : divA (a * m) (d * k) (repL m k xs a d) ≤ m := by
  refine firstP_min ?_ _ _ m1
  rw [Bool.and_eq_true, decide_eq_true_eq]
  refine ⟨Nat.mul_mod_left _ _, across_iff.2 fun i j hi hj => ?_⟩
  rw [rep_elt hi (by omega), rep_elt hi hj, Nat.add_mod_right]
theorem divD_rep (k1 : 1 ≤ k) : divD (a * m) (d * k) (repL m k xs a d) ≤ k := by
  refine firstP_min ?_ _ _ k1
  rw [Bool.and_eq_true, decide_eq_true_eq]
  refine ⟨Nat.mul_mod_left _ _, down_iff.2 fun i j hi hj => ?_⟩
  rw [rep_elt (by omega) hj, rep_elt hi hj, Nat.add_mod_right]
theorem copy_lt {i t : Nat} (hi : i < d) (ht : t < k) : i * k + t < d * k := by
  have := Nat.mul_le_mul_right k (Nat.succ_le_of_lt hi)
  rw [Nat.succ_mul] at this
  omega
theorem mod_of {i k t : Nat} (ht : t < k) : (i * k + t) % k = t := by rw [Nat.add_comm, Nat.add_mul_mod_self_right, Nat.mod_eq_of_lt ht]
/-- Each copy is a place of the motif. -/
theorem occ_rep {i c : Nat} (hl : xs.length = m * k) (hi : i < d) (hc : c < a) : occB (a * m) (repL m k xs a d) m k xs (i * k) (c * m) = true := by
  unfold occB
  rw [decide_eq_true_eq]
  symm
  show xs = gridL k m fun i' j' => elt (a * m) (repL m k xs a d) (i * k + i') (c * m + j')
  refine gridL_ext (by rw [hl, Nat.mul_comm]) fun i' j' hi' hj' => ?_
  show elt m xs i' j' = elt (a * m) (repL m k xs a d) (i * k + i') (c * m + j')
  rw [rep_elt (copy_lt hi hi') (copy_lt hc hj'), mod_of hi', mod_of hj']
theorem place_mem {mm kk pm pk r c : Nat} {zs ys : List Int} (ho : occB mm zs pm pk ys r c = true) (hr : r < kk + 1 - pk) (hc : c < mm + 1 - pm) : (⟨(r : Int), (c : Int)⟩ : PairR) ∈ placesL mm kk zs pm pk ys := by
  unfold placesL placesTo
  refine List.mem_flatMap.2 ⟨r, List.mem_range.2 hr, ?_⟩
  unfold rowPl
  exact List.mem_map.2 ⟨c, List.mem_filter.2 ⟨List.mem_range.2 hc, ho⟩, rfl⟩
theorem rep_place {i c : Nat} (hl : xs.length = m * k) (hi : i < d) (hc : c < a) : (⟨((i * k : Nat) : Int), ((c * m : Nat) : Int)⟩ : PairR) ∈ placesL (a * m) (d * k) (repL m k xs a d) m k xs := by
  have h1 := Nat.mul_le_mul_right k (Nat.succ_le_of_lt hi)
  have h2 := Nat.mul_le_mul_right m (Nat.succ_le_of_lt hc)
  rw [Nat.succ_mul] at h1 h2
  exact place_mem (occ_rep hl hi hc) (by omega) (by omega)
theorem inj_len : ∀ (N : Nat) (f : Nat → PairR) (L : List PairR), (∀ q, q < N → f q ∈ L) → (∀ q q', q < N → q' < N → f q = f q' → q = q') → N ≤ L.length
  | 0, _, _, _, _ => Nat.zero_le _
  | N + 1, f, L, h1, h2 => by
    have hN := h1 N (Nat.lt_succ_self N)
    have := inj_len N f (L.erase (f N)) (fun q hq => (List.mem_erase_of_ne (fun e => by have := h2 q N (by omega) (by omega) e; omega)).2 (h1 q (by omega))) (fun q q' hq hq' => h2 q q' (by omega) (by omega))
    rw [List.length_erase_of_mem hN] at this
    have := List.length_pos_of_mem hN
    omega
theorem rep_count (m1 : 1 ≤ m) (k1 : 1 ≤ k) (hl : xs.length = m * k) : a * d ≤ (placesL (a * m) (d * k) (repL m k xs a d) m k xs).length := by
  rcases Nat.eq_zero_or_pos a with rfl | ha
  · simp
  refine inj_len (a * d) (fun q => ⟨((q / a * k : Nat) : Int), ((q % a * m : Nat) : Int)⟩) _ (fun q hq => rep_place hl (Nat.div_lt_of_lt_mul hq) (Nat.mod_lt _ ha)) (fun q q' _ _ e => ?_)
  injection e with e1 e2
  have e3 := Nat.eq_of_mul_eq_mul_right k1 (Int.ofNat_inj.1 e1)
  have e4 := Nat.eq_of_mul_eq_mul_right m1 (Int.ofNat_inj.1 e2)
  rw [← Nat.div_add_mod q a, ← Nat.div_add_mod q' a, e3, e4]
theorem mirRep_elt {i j : Nat} (hi : i < k) (hj : j < a * m) : elt (a * m) (mirRepL m k xs a) i j = if j / m % 2 = 1 then elt m xs i (m - 1 - j % m) else elt m xs i (j % m) := by
  have h := gridL_get (h := 1 * k) (k := a * m) (f := fun i j => mirF m xs (i / k) (j / m) (i % k) (j % m)) (show i < 1 * k by omega) hj
  rw [Nat.mod_eq_of_lt hi] at h
  exact h
/-- A mirrored repeat of an even number of copies is its own mirror image. -/
theorem mirRep_same (m1 : 1 ≤ m) (ha : a % 2 = 0) : mirrorL (a * m) k (mirRepL m k xs a) = mirRepL m k xs a := by
  have hlen : (mirRepL m k xs a).length = k * (a * m) := by unfold mirRepL; rw [tileL_len, Nat.one_mul]
  symm
  refine gridL_ext hlen fun i j hi hj => ?_
  show elt (a * m) (mirRepL m k xs a) i j = elt (a * m) (mirRepL m k xs a) i (a * m - 1 - j)
  have hjm := Nat.div_add_mod j m
  have hml := Nat.mod_lt j m1
  have hc : j / m < a := Nat.div_lt_of_lt_mul (by rw [Nat.mul_comm]; exact hj)
  generalize hC : j / m = c at *
  generalize hR : j % m = r at *
  have e : a * m - 1 - j = (a - 1 - c) * m + (m - 1 - r) := by
    obtain ⟨t, rfl⟩ : ∃ t, a = c + 1 + t := ⟨a - 1 - c, by omega⟩
    rw [show c + 1 + t - 1 - c = t by omega, Nat.add_mul, Nat.add_mul, Nat.one_mul, ← hjm, Nat.mul_comm m c]
    omega
  have b := div_block (i := a * m - 1 - j) (k := m) (i0 := a - 1 - c) (by omega) (by omega)
  rw [mirRep_elt hi hj, mirRep_elt hi (by omega), b.1, hC, hR, show (a * m - 1 - j) % m = m - 1 - r by rw [b.2, e]; omega]
  by_cases hp : c % 2 = 1
  · rw [if_pos hp, if_neg (by omega)]
  · rw [if_neg hp, if_pos (by omega), show m - 1 - (m - 1 - r) = r by omega]
end
end Go.Proofs.Ytimindgefceibaa
namespace Go.Proofs.Ytimindgefceibaa
open Go.RowKit
set_option maxRecDepth 100000

theorem eq_same (p : Pic) (s : Nat) : eqPic (p.move s) p = p.same s := by
  unfold eqPic Pic.same
  rw [Bool.eq_iff_iff, decide_eq_true_eq, decide_eq_true_eq]
  constructor
  · exact fun h => ⟨h.1.symm, h.2.1.symm, h.2.2.symm⟩
  · exact fun h => ⟨h.1.symm, h.2.1.symm, h.2.2.symm⟩
set_option maxRecDepth 100000 in
set_option maxHeartbeats 4000000 in
/-- Whether a chart has a symmetry. -/
theorem isSameAfterN_eq (m k : Nat) (xs : List Int) (b off c B s : Nat) (w : World) (hR : Rd w B (some ⟨b, off, none⟩) xs.length c xs) (hB : B ≤ w.heap.size) (hpok : (⟨m, k, xs⟩ : Pic).Ok) (hs7 : s ≤ 7) (d : Bool) (hd : (⟨m, k, xs⟩ : Pic).same s = d) :
    Calls Try.prog 58 #[chartV m k (.slice (some ⟨b, off, none⟩) xs.length c), .int .i64 s] w (Out w (.bool d)) := by
  have hml : 1 ≤ ((⟨m, k, xs⟩ : Pic).move s).xs.length := (hpok.move s).len.2
  have hmok := hpok.move s
  have HB := Lib.hid ((Below.refl w.heap.size w).alloc (Nat.le_refl _) (.cells #[.int .i64 m, .int .i64 k, .slice (some ⟨b, off, none⟩) xs.length c] 26))
  have R1 := hR.alloc hB (.cells #[.int .i64 m, .int .i64 k, .slice (some ⟨b, off, none⟩) xs.length c] 26)
  have x1 := Blk.new w #[.int .i64 m, .int .i64 k, .slice (some ⟨b, off, none⟩) xs.length c] 26
  have HSD := Lib.hid ((eq_same ⟨m, k, xs⟩ s).trans hd)
  clear hR hd
  go_enter Try.func58, Try.ntmps58
  go_wp2_with fail
  have e0 := x1.cell 0
  have e1 := x1.cell 1
  have e2 := x1.cell 2
  have hz := x1.lt
  have hz1 : w.heap.size ≤ (w.alloc (.cells #[.int .i64 m, .int .i64 k, .slice (some ⟨b, off, none⟩) xs.length c] 26)).heap.size := Nat.le_of_lt hz
  have hz3 : B ≤ (w.alloc (.cells #[.int .i64 m, .int .i64 k, .slice (some ⟨b, off, none⟩) xs.length c] 26)).heap.size := Nat.le_trans hB hz1
  clear x1
  generalize w.alloc (.cells #[.int .i64 m, .int .i64 k, .slice (some ⟨b, off, none⟩) xs.length c] 26) = wv at *
  have R1d := R1.drew
  have hz3d : B ≤ wv.drew.heap.size := hz3
  go_region_held3 (fun w' => w'.cell? ⟨w.heap.size, 0, none⟩ = some (.int .i64 m) ∧ w'.cell? ⟨w.heap.size, 1, none⟩ = some (.int .i64 k) ∧ w'.cell? ⟨w.heap.size, 2, none⟩ = some (.slice (some ⟨b, off, none⟩) xs.length c)) (first | exact ⟨e0, e1, e2⟩ | go_keep) (first | (go_at_call 99; (with_reducible refine (movedBy_any m k b off c B s xs _ R1d hz3d hpok hs7).mono ?_); rintro e w3 ⟨A3, c3, rfl, own3, hb3⟩; (try replace hb3 := below_drew' hb3); obtain ⟨g3, rfl, _, _⟩ := own3.some_ hml; have rd3 := own3.rd; have R3 := R1.all hb3 hz3; have HB3 := Lib.hid (HB.out.trans (hb3.mono hz1)); have hz4 : B ≤ w3.heap.size := Nat.le_trans hz3 hb3.size; have hz5 : w.heap.size ≤ w3.heap.size := Nat.le_trans hz1 hb3.size; have hz6 : w3.heap.size ≤ w3.heap.size := Nat.le_refl _; replace e0 := cells_of hb3 e0 hz; replace e1 := cells_of hb3 e1 hz; replace e2 := cells_of hb3 e2 hz; have hz7 : w.heap.size < w3.heap.size := Nat.lt_of_lt_of_le hz hb3.size; clear hb3 own3) | (go_at_call 98; (with_reducible refine (isSameChart_eq ((⟨m, k, xs⟩ : Pic).move s) ⟨m, k, xs⟩ g3 0 c3 w3.heap.size b off c B w3 rd3 R3 hz6 hz4 hmok hpok d HSD.out).mono ?_); rintro e w4 ⟨rfl, hb4⟩; have HB4 := Lib.hid (HB3.out.trans (hb4.mono hz5)); replace e0 := cells_of hb4 e0 hz7; replace e1 := cells_of hb4 e1 hz7; replace e2 := cells_of hb4 e2 hz7; clear hb4))
  go_wp2
  go_ret
  exact ⟨rfl, HB4.out⟩
end Go.Proofs.Ytimindgefceibaa
namespace Go.Proofs.Ytimindgefceibaa
open Go.RowKit

def hasB (W H : Int) (xs : List Int) (s : Int) : Bool := moveOk W H xs s && (⟨W.toNat, H.toNat, xs⟩ : Pic).same s.toNat
theorem ret2_bb {a a' b b' : Bool} (h : a = a') (h' : b = b') : Ending.returned (.tuple #[.bool a, .bool b]) = .returned (.tuple #[.bool a', .bool b']) := by rw [h, h']
theorem same_len {p : Pic} (h : p.Ok) (s : Nat) : (p.move s).m = p.m → (p.move s).k = p.k → (p.move s).xs.length = p.xs.length := fun e1 e2 => by
  rw [(h.move s).2.2.2.2, e1, e2, h.2.2.2.2]
set_option maxRecDepth 100000 in
set_option maxHeartbeats 1000000 in
theorem implHasSymmetry_any (W H : Int) (A : Option Addr) (n c B : Nat) (xs : List Int) (s : Int) (w : World) (hR : Rd w B A n c xs) (hB : B ≤ w.heap.size) :
    Calls Try.prog 16 #[chartV W H (.slice A n c), .int .i64 s] w (Out w (.tuple #[.bool (hasB W H xs s), .bool (moveOk W H xs s)])) := by
  have hb0 := Lib.hid ((Below.refl w.heap.size w).alloc (Nat.le_refl _) (.cells #[.int .i64 W, .int .i64 H, .slice A n c] 26))
  have h' := Lib.hid (hR.alloc hB (.cells #[.int .i64 W, .int .i64 H, .slice A n c] 26))
  have x0 := Blk.new w #[.int .i64 W, .int .i64 H, .slice A n c] 26
  by_cases h : moveOk W H xs s = true
  · obtain ⟨hg, hq⟩ := move_yes h
    obtain ⟨m, k, rfl, rfl, m1, m8, k1, k8, hl, h64, hl1, _⟩ := good_nat hg
    obtain ⟨s, rfl, hs7⟩ := isSymB_yes hq
    have hpok := move_pic hg
    obtain ⟨d, HDD⟩ : ∃ d, Hid (decide (((⟨m, k, xs⟩ : Pic).move s).m = m ∧ ((⟨m, k, xs⟩ : Pic).move s).k = k ∧ ((⟨m, k, xs⟩ : Pic).move s).xs = xs) = d) := ⟨_, rfl⟩
    have HV := Lib.hid (show hasB m k xs s = (⟨m, k, xs⟩ : Pic).same s ∧ moveOk m k xs s = true from ⟨by simp [hasB, h], h⟩)
    clear h
    obtain rfl := hR.len
    obtain ⟨b, off, rfl, _, _⟩ := hR.cells (by omega)
    clear hR
    go_enter Try.func16, Try.ntmps16
    go_wp2_with fail
    refine (implIsChart_any m k _ _ c B xs _ h'.out (by simp; omega)).mono ?_
    rintro e w1 ⟨rfl, hb⟩
    have x1 := x0.all hb
    have R1 := h'.out.all hb (by simp; omega)
    have HB := Lib.hid (hb0.out.trans (hb.mono (by simp)))
    have hz := x1.lt
    have hz1 : w.heap.size ≤ w1.heap.size := Nat.le_of_lt hz
    have hz3 : B ≤ w1.heap.size := Nat.le_trans hB hz1
    have e0 := x1.cell 0
    have e1 := x1.cell 1
    have e2 := x1.cell 2
    clear hb x0 h' hb0
    rw [hg]
    go_wp2_with (go_at_call 57; (with_reducible refine (isSymmetry_any _ _).mono ?_); rintro e w' ⟨rfl, rfl⟩)
    refine (isSameAfterN_eq m k xs b off c B s _ R1 hz3 hpok hs7 _ rfl).mono ?_
    rintro e w2 ⟨rfl, hb2⟩
    have HB2 := Lib.hid (HB.out.trans (hb2.mono hz1))
    clear hb2
    go_wp2
    go_ret2
    exact ⟨ret2_bb HV.out.1.symm HV.out.2.symm, HB2.out⟩
  · have HV := Lib.hid (show hasB W H xs s = false ∧ moveOk W H xs s = false from ⟨by simp [hasB, not_false h], not_false h⟩)
    rcases move_no h with hg | ⟨hg, hq⟩
    all_goals
      clear h
      go_enter Try.func16, Try.ntmps16
      go_wp2_with fail
      refine (implIsChart_any W H A n c B xs _ h'.out (by simp; omega)).mono ?_
      rintro e w1 ⟨rfl, hb⟩
      have HB := Lib.hid (hb0.out.trans (hb.mono (by simp)))
      clear hb x0
      rw [hg]
      go_wp2_with (go_at_call 57; (with_reducible refine (isSymmetry_any _ _).mono ?_); rintro e w' ⟨rfl, rfl⟩)
      go_ret2
      exact ⟨ret2_bb HV.out.1.symm HV.out.2.symm, HB.out⟩
/-- The symmetries below j that a chart has. -/
def symsTo (p : Pic) (j : Nat) : List Int := ((List.range j).filter fun s => p.same s).map fun s : Nat => (s : Int)
theorem symsTo_yes {p : Pic} {j : Nat} (h : p.same j = true) : symsTo p (j + 1) = symsTo p j ++ [(j : Int)] := by
  simp [symsTo, List.range_succ, h]
theorem symsTo_no {p : Pic} {j : Nat} (h : p.same j = false) : symsTo p (j + 1) = symsTo p j := by
  simp [symsTo, List.range_succ, h]
theorem symsTo_len (p : Pic) (j : Nat) : (symsTo p j).length ≤ j := by
  simp only [symsTo, List.length_map]
  exact Nat.le_trans (List.length_filter_le _ _) (by simp)
def symsX (W H : Int) (xs : List Int) : List Int := if goodB W H xs = true then symsTo ⟨W.toNat, H.toNat, xs⟩ 8 else []
theorem symsX_len (W H : Int) (xs : List Int) : (symsX W H xs).length ≤ 1048576 := by
  unfold symsX
  split
  · have := symsTo_len ⟨W.toNat, H.toNat, xs⟩ 8
    omega
  · simp
end Go.Proofs.Ytimindgefceibaa
namespace Go.Proofs.Ytimindgefceibaa
open Go.RowKit

theorem taken_most6 {pm pk : Nat} (l : List PairR) : (takenL pm pk [] l).length ≤ l.length := by
  have := takenL_len (pm := pm) (pk := pk) l []
  simpa using this
/-- A repeated motif: its places and its smallest motif. -/
structure RepFacts (W H : Int) (xs : List Int) (a d : Int) (zs : List Int) (P : List PairR) : Prop where
  bdW : 1 ≤ W ∧ W ≤ 8
  bdH : 1 ≤ H ∧ H ≤ 8
  bda : 1 ≤ a ∧ a ≤ 8
  bdd : 1 ≤ d ∧ d ≤ 8
  good : goodB (a * W) (d * H) zs = true
  two : twoOk (a * W) (d * H) zs W H xs = true
  smW : ((divA (a * W).toNat (d * H).toNat zs : Nat) : Int) ≤ W
  smH : ((divD (a * W).toNat (d * H).toNat zs : Nat) : Int) ≤ H
  apart : apartN (a * W) (d * H) zs W H xs ≤ (P.length : Int)
  many : a * d ≤ (P.length : Int)
  all : ∀ i c : Int, 0 ≤ i → i < d → 0 ≤ c → c < a → (⟨i * H, c * W⟩ : PairR) ∈ P
theorem rep_facts {W H : Int} {xs : List Int} {a d : Int} (h : repAll W H xs a d = true) : RepFacts W H xs a d (repX W H xs a d) (placesX (a * W) (d * H) (repX W H xs a d) W H xs) := by
  have h0 := h
  unfold repAll at h
  rw [Bool.and_eq_true, Bool.and_eq_true] at h
  obtain ⟨⟨hok, hs1⟩, hs2⟩ := h
  obtain ⟨hg, ha, hd⟩ := rep_yes hok
  have hX : repX W H xs a d = repL W.toNat H.toNat xs a.toNat d.toNat := by unfold repX; rw [if_pos h0]
  obtain ⟨m, k, rfl, rfl, m1, m8, k1, k8, hl, _, _, hc⟩ := good_nat hg
  obtain ⟨a, rfl, a1, a8⟩ := isSideB_nat ha
  obtain ⟨d, rfl, d1, d8⟩ := isSideB_nat hd
  simp only [Int.toNat_natCast] at hX
  rw [hX]
  have e1 : ((a : Int) * (m : Int)) = ((a * m : Nat) : Int) := (Int.natCast_mul a m).symm
  have e2 : ((d : Int) * (k : Int)) = ((d * k : Nat) : Int) := (Int.natCast_mul d k).symm
  rw [e1] at hs1
  rw [e2] at hs2
  have hgood : goodB ((a : Int) * (m : Int)) ((d : Int) * (k : Int)) (repL m k xs a d) = true := by
    rw [e1, e2]
    have := good_grid (h := d * k) (k := a * m) (f := fun i j => repF m xs (i / k) (j / m) (i % k) (j % m)) (fun i j => elt_color hc)
    rw [show repL m k xs a d = gridL (d * k) (a * m) (fun i j => repF m xs (i / k) (j / m) (i % k) (j % m)) from rfl, this, hs1, hs2]
    rfl
  have htwo : twoOk ((a : Int) * (m : Int)) ((d : Int) * (k : Int)) (repL m k xs a d) m k xs = true := by unfold twoOk; rw [hgood, hg]; rfl
  have hP : placesX ((a : Int) * (m : Int)) ((d : Int) * (k : Int)) (repL m k xs a d) m k xs = placesL (a * m) (d * k) (repL m k xs a d) m k xs := by
    unfold placesX
    rw [if_pos htwo, e1, e2]
    simp only [Int.toNat_natCast]
  rw [hP]
  refine ⟨⟨by omega, by omega⟩, ⟨by omega, by omega⟩, ⟨by omega, by omega⟩, ⟨by omega, by omega⟩, hgood, htwo, ?_, ?_, ?_, ?_, ?_⟩
  · rw [e1, e2]
    simp only [Int.toNat_natCast]
    exact Int.ofNat_le.2 (divA_rep m1)
  · rw [e1, e2]
    simp only [Int.toNat_natCast]
    exact Int.ofNat_le.2 (divD_rep k1)
  · unfold apartN
    rw [if_pos htwo, e1, e2]
    simp only [Int.toNat_natCast]
    exact Int.ofNat_le.2 (taken_most6 _)
  · rw [← Int.natCast_mul]
    exact Int.ofNat_le.2 (rep_count m1 k1 hl.out)
  · intro i c hi0 hi hc0 hc1
    obtain ⟨i, rfl⟩ := Int.eq_ofNat_of_zero_le hi0
    obtain ⟨c, rfl⟩ := Int.eq_ofNat_of_zero_le hc0
    have := rep_place (a := a) (d := d) (i := i) (c := c) hl.out (by omega) (by omega)
    rwa [Int.natCast_mul, Int.natCast_mul] at this
/-- A mirrored repeat of an even number of copies is its own mirror image. -/
theorem mir_facts {W H : Int} {xs : List Int} {a : Int} (h : mirAll W H xs a = true) (he : a.tmod 2 = 0) : hasB (a * W) H (mirX W H xs a) 4 = true ∧ moveOk (a * W) H (mirX W H xs a) 4 = true := by
  have h0 := h
  unfold mirAll at h
  rw [Bool.and_eq_true] at h
  obtain ⟨hok, hs1⟩ := h
  obtain ⟨hg, ha⟩ := mir_yes hok
  have hX : mirX W H xs a = mirRepL W.toNat H.toNat xs a.toNat := by unfold mirX; rw [if_pos h0]
  obtain ⟨m, k, rfl, rfl, m1, m8, k1, k8, hl, _, _, hc⟩ := good_nat hg
  obtain ⟨a, rfl, a1, a8⟩ := isSideB_nat ha
  simp only [Int.toNat_natCast] at hX
  rw [hX]
  have e1 : ((a : Int) * (m : Int)) = ((a * m : Nat) : Int) := (Int.natCast_mul a m).symm
  rw [e1] at hs1
  have hgood : goodB ((a : Int) * (m : Int)) (k : Int) (mirRepL m k xs a) = true := by
    rw [e1]
    have := good_grid (h := 1 * k) (k := a * m) (f := fun i j => mirF m xs (i / k) (j / m) (i % k) (j % m)) (fun i j => by unfold mirF; split <;> exact elt_color hc)
    rw [show mirRepL m k xs a = gridL (1 * k) (a * m) (fun i j => mirF m xs (i / k) (j / m) (i % k) (j % m)) from rfl]
    rw [Nat.one_mul] at this ⊢
    rw [this, hs1]
    simp [isSideB]
    omega
  have hev : a % 2 = 0 := by
    rw [Int.tmod_eq_emod_of_nonneg (by omega)] at he
    omega
  have hmv : moveOk ((a : Int) * (m : Int)) (k : Int) (mirRepL m k xs a) 4 = true := by
    unfold moveOk
    rw [hgood]
    decide
  refine ⟨?_, hmv⟩
  unfold hasB
  rw [hmv, e1, Bool.true_and]
  unfold Pic.same
  rw [decide_eq_true_eq]
  simp only [Int.toNat_natCast]
  show (Pic.move ⟨a * m, k, mirRepL m k xs a⟩ 4).m = a * m ∧ (Pic.move ⟨a * m, k, mirRepL m k xs a⟩ 4).k = k ∧ (Pic.move ⟨a * m, k, mirRepL m k xs a⟩ 4).xs = mirRepL m k xs a
  refine ⟨rfl, rfl, ?_⟩
  show mirrorL (a * m) k (mirRepL m k xs a) = mirRepL m k xs a
  exact mirRep_same m1 hev
/-- Two places are the same. -/
def eqP (s t : PairR) : Bool := s.f0 == t.f0 && s.f1 == t.f1
def seenT (P : List PairR) (t : PairR) (p : Nat) : Bool := (P.take p).any (fun s => eqP s t)
theorem seenT_zero (P : List PairR) (t : PairR) : seenT P t 0 = false := by simp [seenT]
theorem seenT_succ {P : List PairR} {t s : PairR} {p : Nat} (h : P[p]? = some s) : seenT P t (p + 1) = (seenT P t p || eqP s t) := by
  obtain ⟨hi, rfl⟩ := List.getElem?_eq_some_iff.1 h
  unfold seenT
  rw [List.take_succ_eq_append_getElem hi, List.any_append]
  simp
theorem seenT_all {P : List PairR} {t : PairR} (h : t ∈ P) {p : Nat} (hp : P.length ≤ p) : seenT P t p = true := by
  unfold seenT
  rw [List.take_of_length_le hp, List.any_eq_true]
  exact ⟨t, h, by simp [eqP]⟩
end Go.Proofs.Ytimindgefceibaa
namespace Go.Proofs.Ytimindgefceibaa
open Go.RowKit
theorem pairEq (a b c d : Int) (w : World) : Sem.run Try.prog (Op.equalIn 10000 38 (Value.agg #[.int .i64 a, .int .i64 b]) (Value.agg #[.int .i64 c, .int .i64 d])) w = .ok (a == c && b == d) w := by
  obtain ⟨i0, hi, hz0, hz1, hz2⟩ := info_parts info_int
  have hc : Try.prog.cellsOf 3 = 1 := by kernel_rfl
  have hk : Try.prog.plainKey 3 = true := by kernel_rfl
  have hu := Try.underlying3
  rw [show (10000 : Nat) = 9999 + 1 from rfl, run_equalIn_array w 9999 _ _ Try.underlying38 hi, hc]
  have p0 : ∀ (x y : Int) (w : World), (part 3 #[.int .i64 x, .int .i64 y] 0).run Try.prog w = .ok (.int .i64 x) w := fun x y w => run_part_plain w hk rfl
  have p1 : ∀ (x y : Int) (w : World), (part 3 #[.int .i64 x, .int .i64 y] 1).run Try.prog w = .ok (.int .i64 y) w := fun x y w => run_part_plain w hk rfl
  have q : ∀ (x y : Int) (w : World), (Op.equalIn 9999 3 (.int .i64 x) (.int .i64 y)).run Try.prog w = .ok (x == y) w := fun x y w => run_equalIn_int w 9998 _ _ _ x y hu
  rw [show List.range 2 = [0, 1] from rfl]
  simp only [Op.eqItems, Sem.run_bind, p0, q, Result.andThen_ok, Nat.zero_mul, Nat.one_mul]
  cases h1 : (a == c) <;> cases h2 : (b == d) <;> simp [p1, q, h2]
end Go.Proofs.Ytimindgefceibaa
